import Derived.Test.YtebpgglegnljgaaSlmPK0
import Derived.Test.YtebpgglegnljgaaShelf
import Derived.Deep.RegionHeld3
namespace Go.Proofs.Ytebpgglegnljgaa
open Go.RowKit

set_option maxRecDepth 100000 in
theorem sizeOk_calls (s : Int) (w : World) :
    Calls Try.prog 86 #[.int .i64 s] w fun e w' => e = .returned (.bool (decide (20 ≤ s ∧ s ≤ 4000))) ∧ w = w' := by
  go_enter Try.func86, Try.ntmps86
  go_wp2
  all_goals
    go_ret
    refine ⟨?_, rfl⟩
    simp_all
    try omega

def sortedZ (xs : List Int) : Bool := (List.range (xs.length - 1)).all (fun k => decide (xs.getD k 0 ≤ xs.getD (k + 1) 0))

set_option maxHeartbeats 1000000 in
set_option maxRecDepth 100000 in
theorem isSorted_calls (g cap : Nat) (xs : List Int) (w : World) (hm : xs.length ≤ 100) (hg : g < w.heap.size) (hc : ∀ k, k < xs.length → w.cell? ⟨g, k, none⟩ = some (.int .i64 (xs.getD k 0))) (h1 : 1 ≤ xs.length) :
    Calls Try.prog 87 #[.slice (some ⟨g, 0, none⟩) xs.length cap] w fun e w' => e = .returned (.bool (sortedZ xs)) ∧ Below w.heap.size w w' := by
  have HC := hid hc
  have hR : sortedZ xs = (List.range (xs.length - 1)).all (fun k => decide (xs.getD k 0 ≤ xs.getD (k + 1) 0)) := rfl
  have HR := hid hR
  generalize sortedZ xs = R at *
  generalize xs.length = m at *
  obtain ⟨m, rfl⟩ : ∃ m', m = m' + 1 := ⟨m - 1, by omega⟩
  rw [Nat.add_sub_cancel] at HR
  clear hc hR h1
  go_enter Try.func87, Try.ntmps87
  go_wp2_with fail
  go_loopw [3] (fun i wr => ∃ j : Nat, i = .int .i64 (j : Int) ∧ Hid (j ≤ m ∧ Below w.heap.size w wr ∧ ∀ k, j ≤ k → k < m → xs.getD k 0 ≤ xs.getD (k + 1) 0)) (fun i _ => (intOf i).toNat)
  case atStart => exact ⟨m, rfl, Nat.le_refl _, Below.refl _ _, fun k h1 h2 => absurd h1 (by omega)⟩
  case round =>
    obtain ⟨j, rfl, HI⟩ := hrel
    by_cases h0 : j = 0
    · subst h0
      have HX : Hid (R = true) := HR.out.trans (all_yes (fun k hk => decide_eq_true (HI.out.2.2 k (Nat.zero_le _) hk)))
      go_wp2_with fail
      go_ret
      exact ⟨by rw [HX.out]; rfl, HI.out.2.1⟩
    · obtain ⟨j, rfl⟩ : ∃ j', j = j' + 1 := ⟨j - 1, by omega⟩
      have hj := HI.out.1
      have hgr : g < wr.heap.size := Nat.lt_of_lt_of_le hg HI.out.2.1.size
      have e1 := (HI.out.2.1.cell (p := ⟨g, j + 1, none⟩) hg).trans (HC.out (j + 1) (by omega))
      have e2 := (HI.out.2.1.cell (p := ⟨g, j, none⟩) hg).trans (HC.out j (by omega))
      have HK : xs.getD (j + 1) 0 < xs.getD j 0 → Hid (R = false) := fun h => HR.out.trans (all_no (j := j) (by omega) (decide_eq_false (by omega)))
      generalize hx : xs.getD (j + 1) 0 = x at *
      generalize hy : xs.getD j 0 = y at *
      have v1 : ∀ z : Later wr.heap.size wr, z.w.cell? ⟨g, j + 1, none⟩ = some (.int .i64 x) := fun z => z.cell hgr e1
      have v2 : ∀ z : Later wr.heap.size wr, z.w.cell? ⟨g, j, none⟩ = some (.int .i64 y) := fun z => z.cell hgr e2
      have HXY := hid (And.intro hx hy)
      have hjj : (j : Int) + 1 < (m : Int) + 1 + 1 := by omega
      clear hx hy e1 e2
      have HLs := hid (fun w => Try.cmp_Less_int2 x y w)
      by_cases hlt : x < y
      · have HF := HK hlt
        clear HK
        rw [decide_eq_true hlt] at HLs
        go_wp2_with fail
        refine wp_region_calm wr.heap.size (by kernel_rfl) (by kernel_rfl) ?_
        repeat (go_big_quiet_step (first | (rename_i z; go_at_call 91; refine (HLs.out z.w).mono ?_; rintro e w5 ⟨rfl, rfl⟩; exact ⟨rfl, z, rfl⟩)))
        refine wpQuiet_nil ?_
        rintro w5 ⟨z, rfl⟩
        have HBx := hid (HI.out.2.1.trans (z.h.mono HI.out.2.1.size))
        clear v1 v2
        go_wp2_with fail
        go_ret
        exact ⟨by rw [HF.out]; rfl, HBx.out⟩
      · clear HK
        rw [decide_eq_false hlt] at HLs
        go_wp2_with fail
        refine wp_region_calm wr.heap.size (by kernel_rfl) (by kernel_rfl) ?_
        repeat (go_big_quiet_step (first | (rename_i z; go_at_call 91; refine (HLs.out z.w).mono ?_; rintro e w5 ⟨rfl, rfl⟩; exact ⟨rfl, z, rfl⟩)))
        refine wpQuiet_nil ?_
        rintro w5 ⟨z, rfl⟩
        have HBx := hid (HI.out.2.1.trans (z.h.mono HI.out.2.1.size))
        clear v1 v2
        go_wp2_with fail
        refine ⟨⟨j, ?_, by omega, HBx.out, fun k h1 h2 => ?_⟩, ?_⟩
        · first | rfl | (congr 1; omega)
        · by_cases hkj : k = j
          · rw [hkj, HXY.out.1, HXY.out.2]
            omega
          · exact HI.out.2.2 k (by omega) h2
        · simp only [intOf]
          omega

theorem sorted5 (a b c d e : Int) : sortedZ [a, b, c, d, e] = decide (a ≤ b ∧ b ≤ c ∧ c ≤ d ∧ d ≤ e) := by
  unfold sortedZ
  show (List.range 4).all _ = _
  simp [List.range_succ]

theorem sorted4 (a b c d : Int) : sortedZ [a, b, c, d] = decide (a ≤ b ∧ b ≤ c ∧ c ≤ d) := by
  unfold sortedZ
  show (List.range 3).all _ = _
  simp [List.range_succ]

set_option maxRecDepth 100000 in
theorem other_exact (v : Value) (h : HpN) (w : World) (h0 : 0 ≤ h.to) (h1 : h.to ≤ 4000) (h2 : 0 ≤ h.size) (h3 : h.size ≤ 4000) :
    Calls Try.prog 60 #[heapV v h] w fun e w' => e = .returned (.int .i64 (h.size - h.to)) ∧ w.alloc (.cells #[v, .int .i64 h.size, .int .i64 h.to, .int .i64 h.bottom, .int .i64 h.top, .int .i64 h.scan, .int .i64 h.fb, .int .i64 h.ft, .int .i64 h.flips, .int .i64 h.touched] 25) = w' := by
  obtain ⟨g1, g2, g3, g4, g5, g6, g7, g8, g9⟩ := h
  dsimp only at *
  unfold heapV
  dsimp only
  go_enter Try.func60, Try.ntmps60
  go_wp2
  go_ret
  exact ⟨rfl, rfl⟩

theorem cell_five (w : World) (a b c d e : Obj) (i : Nat) : (((((w.alloc a).alloc b).alloc c).alloc d).alloc e).cell? ⟨w.heap.size, i, none⟩ = (w.alloc a).cell? ⟨w.heap.size, i, none⟩ :=
  ((((Below.refl (w.heap.size + 1) (w.alloc a)).alloc (by simp) b).alloc (by simp) c).alloc (by simp) d).alloc (by simp) e |>.cell (p := ⟨w.heap.size, i, none⟩) (by simp)

theorem cell_fived (w : World) (a b c d e : Obj) (i : Nat) : (((((w.alloc a).alloc b).alloc c).alloc d).alloc e).drew.cell? ⟨w.heap.size, i, none⟩ = (w.alloc a).cell? ⟨w.heap.size, i, none⟩ := cell_five w a b c d e i

theorem five_at (w : World) (a b c d e : Obj) : let W := (((((w.alloc a).alloc b).alloc c).alloc d).alloc e).drew
    W.heap[w.heap.size]? = some a ∧ W.heap[w.heap.size + 1]? = some b ∧ W.heap[w.heap.size + 4]? = some e ∧ Below w.heap.size w W := by
  have k1 : Below (w.heap.size + 1) (w.alloc a) (((((w.alloc a).alloc b).alloc c).alloc d).alloc e).drew := (((((Below.refl (w.heap.size + 1) (w.alloc a)).alloc (by simp) b).alloc (by simp) c).alloc (by simp) d).alloc (by simp) e).drew
  have k2 : Below (w.heap.size + 2) ((w.alloc a).alloc b) (((((w.alloc a).alloc b).alloc c).alloc d).alloc e).drew := ((((Below.refl (w.heap.size + 2) ((w.alloc a).alloc b)).alloc (by simp) c).alloc (by simp) d).alloc (by simp) e).drew
  have s1 : (w.alloc a).heap.size = w.heap.size + 1 := by simp
  have s4 : ((((w.alloc a).alloc b).alloc c).alloc d).heap.size = w.heap.size + 4 := by simp
  refine ⟨(k1.block _ (by omega)).trans (MapKept.heap_alloc w a).1, (k2.block _ (by omega)).trans ?_, ?_, (((Below.refl w.heap.size w).alloc (Nat.le_refl _) a).trans (k1.mono (by omega)))⟩
  · rw [← s1]
    exact (MapKept.heap_alloc (w.alloc a) b).1
  · rw [← s4]
    exact (MapKept.heap_alloc ((((w.alloc a).alloc b).alloc c).alloc d) e).1

theorem row_cells {W : World} {g : Nat} {xs : List Int} {t : TypeId} (e : W.heap[g]? = some (.cells (xs.map (fun x => Value.int .i64 x)).toArray t)) : ∀ k, k < xs.length → W.cell? ⟨g, k, none⟩ = some (.int .i64 (xs.getD k 0)) := by
  intro k hk
  rw [cell_of_heap e]
  simp [hk, List.getD]

theorem five_use (w : World) (a b c d e : Obj) (Q : World → Prop)
    (h : ∀ W : World, W.heap[w.heap.size]? = some a → W.heap[w.heap.size + 1]? = some b → W.heap[w.heap.size + 4]? = some e → Below w.heap.size w W → Q W) : Q (((((w.alloc a).alloc b).alloc c).alloc d).alloc e).drew := by
  obtain ⟨h1, h2, h3, h4⟩ := five_at w a b c d e
  exact h _ h1 h2 h3 h4

set_option maxHeartbeats 4000000 in
set_option maxRecDepth 100000 in
theorem ordered_calls (ad : Option Addr) (N cap : Nat) (h : HpN) (w : World) :
    Calls Try.prog 58 #[heapV (.slice ad N cap) h] w fun e w' => e = .returned (.bool (decide (Ordered h N))) ∧ Below w.heap.size w w' := by
  have HS := hid (fun w => sizeOk_calls h.size w)
  obtain ⟨g1, g2, g3, g4, g5, g6, g7, g8, g9⟩ := h
  unfold heapV
  dsimp only at *
  by_cases hA : (20 ≤ g1 ∧ g1 ≤ 4000) ∧ (N : Int) = 2 * g1 ∧ (g2 = 0 ∨ g2 = g1)
  · obtain ⟨a1, a2, a3⟩ := hA
    rw [decide_eq_true a1] at HS
    obtain ⟨a11, a12⟩ := a1
    rcases a3 with rfl | hto
    · have HR : Hid (decide (Ordered ⟨g1, 0, g3, g4, g5, g6, g7, g8, g9⟩ N) = (sortedZ [0, g5, g3, g4, g1] && (sortedZ [g1, g6, g7, g1 + g1] && (decide (0 ≤ g8) && decide (0 ≤ g9))))) := by
        show _ = _
        rw [sorted5, sorted4, Bool.eq_iff_iff]
        simp only [Bool.and_eq_true, decide_eq_true_eq]
        unfold Ordered
        dsimp only
        omega
      generalize decide (Ordered ⟨g1, 0, g3, g4, g5, g6, g7, g8, g9⟩ N) = R at *
      have hw1 : IntKind.i64.wrap (g1 + g1) = g1 + g1 := by rw [IntKind.wrap_i64]; omega
      have hw2 : IntKind.i64.wrap (g1 - g1 + g1) = g1 := by rw [IntKind.wrap_i64]; omega
      have hw3 : IntKind.i64.wrap g1 = g1 := by rw [IntKind.wrap_i64]; omega
      have HWR := hid (And.intro hw1 (And.intro hw2 hw3))
      clear hw1 hw2 hw3
      have HOt := hid (fun (w' : World) => other_exact (.slice ad N cap) ⟨g1, 0, g3, g4, g5, g6, g7, g8, g9⟩ w' (by dsimp only; omega) (by dsimp only; omega) (by dsimp only; omega) (by dsimp only; omega))
      unfold heapV at HOt
      dsimp only at HOt
      rw [show g1 - 0 = g1 by omega] at HOt
      go_enter Try.func58, Try.ntmps58
      go_wp2_with (first | (go_at_call 86; refine (HS.out _).mono ?_; rintro e w5 ⟨rfl, rfl⟩))
      go_region_held3 (fun w' => w'.cell? ⟨w.heap.size, 0, none⟩ = some (.slice ad N cap) ∧ w'.cell? ⟨w.heap.size, 1, none⟩ = some (.int .i64 g1) ∧ w'.cell? ⟨w.heap.size, 2, none⟩ = some (.int .i64 0) ∧ w'.cell? ⟨w.heap.size, 3, none⟩ = some (.int .i64 g3) ∧ w'.cell? ⟨w.heap.size, 4, none⟩ = some (.int .i64 g4) ∧ w'.cell? ⟨w.heap.size, 5, none⟩ = some (.int .i64 g5) ∧ w'.cell? ⟨w.heap.size, 6, none⟩ = some (.int .i64 g6) ∧ w'.cell? ⟨w.heap.size, 7, none⟩ = some (.int .i64 g7) ∧ w'.cell? ⟨w.heap.size, 8, none⟩ = some (.int .i64 g8) ∧ w'.cell? ⟨w.heap.size, 9, none⟩ = some (.int .i64 g9)) (first | (simp only [cell_fived]; simp; done) | go_keep) (first | (go_at_call 60; refine (HOt.out _).mono ?_; rintro e w5 ⟨rfl, rfl⟩))
      refine five_use w _ _ _ _ _ _ ?_
      intro W k0 k1 k4 kb
      simp only [HWR.out.1] at k1 k4
      have HK := hid k0
      have HK4 := hid k4
      have HB := hid kb
      have HS5 := hid (isSorted_calls (w.heap.size + 1) 5 [0, g5, g3, g4, g1] W (by simp) (heap_lt k1) (row_cells k1) (by simp))
      generalize hs5 : sortedZ [0, g5, g3, g4, g1] = s5 at *
      generalize hs4 : sortedZ [g1, g6, g7, g1 + g1] = s4 at *
      have HS4e := hid hs4
      clear k0 k1 k4 kb hs5 hs4 a2
      go_wp2_with fail
      refine HS5.out.mono ?_
      rintro e W1 ⟨rfl, hb1⟩
      have HK1 := hid (HeapBlk.below (h := ⟨g1, 0, g3, g4, g5, g6, g7, g8, g9⟩) HK.out hb1)
      have HS4 := hid (isSorted_calls (w.heap.size + 4) 4 [g1, g6, g7, g1 + g1] W1 (by simp) (Nat.lt_of_lt_of_le (heap_lt HK4.out) hb1.size) (row_cells ((hb1.block _ (heap_lt HK4.out)).trans HK4.out)) (by simp))
      have HB1 := hid (HB.out.trans (hb1.mono HB.out.size))
      rw [HS4e.out] at HS4
      clear hb1 HS5 HK HK4 HB HS4e
      obtain ⟨c0, c1, c2, c3, c4, c5, c6, c7, c8, c9⟩ := HK1.out.cells
      dsimp only at c0 c1 c2 c3 c4 c5 c6 c7 c8 c9
      cases s5
      · go_wp2_with fail
        go_ret
        exact ⟨by rw [HR.out]; rfl, HB1.out⟩
      · go_wp2_with fail
        refine HS4.out.mono ?_
        rintro e W2 ⟨rfl, hb2⟩
        have HK2 := hid (HK1.out.below hb2)
        have HB2 := hid (HB1.out.trans (hb2.mono HB1.out.size))
        clear hb2 HS4 HK1 HB1 c0 c1 c2 c3 c4 c5 c6 c7 c8 c9
        obtain ⟨c0, c1, c2, c3, c4, c5, c6, c7, c8, c9⟩ := HK2.out.cells
        dsimp only at c0 c1 c2 c3 c4 c5 c6 c7 c8 c9
        cases s4
        · go_wp2_with fail
          go_ret
          exact ⟨by rw [HR.out]; rfl, HB2.out⟩
        · by_cases q1 : 0 ≤ g8
          · rw [decide_eq_true q1] at HR
            go_wp2_with fail
            go_ret
            exact ⟨by rw [HR.out]; rfl, HB2.out⟩
          · rw [decide_eq_false q1] at HR
            go_wp2_with fail
            go_ret
            exact ⟨by rw [HR.out]; rfl, HB2.out⟩
    · have hto := hto.symm
      subst hto
      have HR : Hid (decide (Ordered ⟨g1, g1, g3, g4, g5, g6, g7, g8, g9⟩ N) = (sortedZ [g1, g5, g3, g4, g1 + g1] && (sortedZ [0, g6, g7, g1] && (decide (0 ≤ g8) && decide (0 ≤ g9))))) := by
        show _ = _
        rw [sorted5, sorted4, Bool.eq_iff_iff]
        simp only [Bool.and_eq_true, decide_eq_true_eq]
        unfold Ordered
        dsimp only
        omega
      generalize decide (Ordered ⟨g1, g1, g3, g4, g5, g6, g7, g8, g9⟩ N) = R at *
      have hw1 : IntKind.i64.wrap (g1 + g1) = g1 + g1 := by rw [IntKind.wrap_i64]; omega
      have hw2 : IntKind.i64.wrap (g1 - g1 + g1) = g1 := by rw [IntKind.wrap_i64]; omega
      have hw3 : IntKind.i64.wrap g1 = g1 := by rw [IntKind.wrap_i64]; omega
      have HWR := hid (And.intro hw1 (And.intro hw2 hw3))
      clear hw1 hw2 hw3
      have HOt := hid (fun (w' : World) => other_exact (.slice ad N cap) ⟨g1, g1, g3, g4, g5, g6, g7, g8, g9⟩ w' (by dsimp only; omega) (by dsimp only; omega) (by dsimp only; omega) (by dsimp only; omega))
      unfold heapV at HOt
      dsimp only at HOt
      rw [show g1 - g1 = 0 by omega] at HOt
      go_enter Try.func58, Try.ntmps58
      go_wp2_with (first | (go_at_call 86; refine (HS.out _).mono ?_; rintro e w5 ⟨rfl, rfl⟩))
      go_region_held3 (fun w' => w'.cell? ⟨w.heap.size, 0, none⟩ = some (.slice ad N cap) ∧ w'.cell? ⟨w.heap.size, 1, none⟩ = some (.int .i64 g1) ∧ w'.cell? ⟨w.heap.size, 2, none⟩ = some (.int .i64 g1) ∧ w'.cell? ⟨w.heap.size, 3, none⟩ = some (.int .i64 g3) ∧ w'.cell? ⟨w.heap.size, 4, none⟩ = some (.int .i64 g4) ∧ w'.cell? ⟨w.heap.size, 5, none⟩ = some (.int .i64 g5) ∧ w'.cell? ⟨w.heap.size, 6, none⟩ = some (.int .i64 g6) ∧ w'.cell? ⟨w.heap.size, 7, none⟩ = some (.int .i64 g7) ∧ w'.cell? ⟨w.heap.size, 8, none⟩ = some (.int .i64 g8) ∧ w'.cell? ⟨w.heap.size, 9, none⟩ = some (.int .i64 g9)) (first | (simp only [cell_fived]; simp; done) | go_keep) (first | (go_at_call 60; refine (HOt.out _).mono ?_; rintro e w5 ⟨rfl, rfl⟩))
      refine five_use w _ _ _ _ _ _ ?_
      intro W k0 k1 k4 kb
      simp only [HWR.out.2.2] at k1 k4
      have HK := hid k0
      have HK4 := hid k4
      have HB := hid kb
      have HS5 := hid (isSorted_calls (w.heap.size + 1) 5 [g1, g5, g3, g4, g1 + g1] W (by simp) (heap_lt k1) (row_cells k1) (by simp))
      generalize hs5 : sortedZ [g1, g5, g3, g4, g1 + g1] = s5 at *
      generalize hs4 : sortedZ [0, g6, g7, g1] = s4 at *
      have HS4e := hid hs4
      clear k0 k1 k4 kb hs5 hs4 a2
      go_wp2_with fail
      refine HS5.out.mono ?_
      rintro e W1 ⟨rfl, hb1⟩
      have HK1 := hid (HeapBlk.below (h := ⟨g1, g1, g3, g4, g5, g6, g7, g8, g9⟩) HK.out hb1)
      have HS4 := hid (isSorted_calls (w.heap.size + 4) 4 [0, g6, g7, g1] W1 (by simp) (Nat.lt_of_lt_of_le (heap_lt HK4.out) hb1.size) (row_cells ((hb1.block _ (heap_lt HK4.out)).trans HK4.out)) (by simp))
      have HB1 := hid (HB.out.trans (hb1.mono HB.out.size))
      rw [HS4e.out] at HS4
      clear hb1 HS5 HK HK4 HB HS4e
      obtain ⟨c0, c1, c2, c3, c4, c5, c6, c7, c8, c9⟩ := HK1.out.cells
      dsimp only at c0 c1 c2 c3 c4 c5 c6 c7 c8 c9
      cases s5
      · go_wp2_with fail
        go_ret
        exact ⟨by rw [HR.out]; rfl, HB1.out⟩
      · go_wp2_with fail
        refine HS4.out.mono ?_
        rintro e W2 ⟨rfl, hb2⟩
        have HK2 := hid (HK1.out.below hb2)
        have HB2 := hid (HB1.out.trans (hb2.mono HB1.out.size))
        clear hb2 HS4 HK1 HB1 c0 c1 c2 c3 c4 c5 c6 c7 c8 c9
        obtain ⟨c0, c1, c2, c3, c4, c5, c6, c7, c8, c9⟩ := HK2.out.cells
        dsimp only at c0 c1 c2 c3 c4 c5 c6 c7 c8 c9
        cases s4
        · go_wp2_with fail
          go_ret
          exact ⟨by rw [HR.out]; rfl, HB2.out⟩
        · by_cases q1 : 0 ≤ g8
          · rw [decide_eq_true q1] at HR
            go_wp2_with fail
            go_ret
            exact ⟨by rw [HR.out]; rfl, HB2.out⟩
          · rw [decide_eq_false q1] at HR
            go_wp2_with fail
            go_ret
            exact ⟨by rw [HR.out]; rfl, HB2.out⟩
  · have hR : decide (Ordered ⟨g1, g2, g3, g4, g5, g6, g7, g8, g9⟩ N) = false := by
      apply decide_eq_false
      intro ho
      apply hA
      exact ⟨⟨ho.1, ho.2.1⟩, ho.2.2.1, ho.2.2.2.1⟩
    rw [hR]
    have HA := hid hA
    clear hR hA
    by_cases hs : 20 ≤ g1 ∧ g1 ≤ 4000
    · rw [decide_eq_true hs] at HS
      obtain ⟨a11, a12⟩ := hs
      by_cases hn : (N : Int) = 2 * g1
      · have z1 : ¬ g2 = 0 := fun e => HA.out ⟨⟨a11, a12⟩, hn, Or.inl e⟩
        have z2 : ¬ g2 = g1 := fun e => HA.out ⟨⟨a11, a12⟩, hn, Or.inr e⟩
        have z3 : (g2 != 0) = true := by simpa using z1
        have z4 : (g2 != g1) = true := by simpa using z2
        clear HA
        go_enter Try.func58, Try.ntmps58
        go_wp2_with (first | (go_at_call 86; refine (HS.out _).mono ?_; rintro e w5 ⟨rfl, rfl⟩))
        go_ret
        exact ⟨rfl, (Below.refl _ _).alloc (Nat.le_refl _) _⟩
      · have z3 : ((N : Int) != 2 * g1) = true := by simpa using hn
        clear HA
        go_enter Try.func58, Try.ntmps58
        go_wp2_with (first | (go_at_call 86; refine (HS.out _).mono ?_; rintro e w5 ⟨rfl, rfl⟩))
        all_goals
          go_ret
          exact ⟨rfl, (Below.refl _ _).alloc (Nat.le_refl _) _⟩
    · rw [decide_eq_false hs] at HS
      go_enter Try.func58, Try.ntmps58
      go_wp2_with (first | (go_at_call 86; refine (HS.out _).mono ?_; rintro e w5 ⟨rfl, rfl⟩))
      go_ret
      exact ⟨rfl, (Below.refl _ _).alloc (Nat.le_refl _) _⟩
end Go.Proofs.Ytebpgglegnljgaa

namespace Go.Proofs.Ytebpgglegnljgaa
open Go.RowKit

def noLay : Value := layV (.slice none 0 0) ⟨0, 0, 0, 0, 0, 0, 0, 0, 0⟩ (.slice none 0 0)

def implLay (ws : List Int) (h : HpN) : Option (List Int) :=
  match lay ws h.to.toNat h.bottom.toNat (List.replicate ws.length 0) with
  | none => none
  | some S1 => match lay ws h.top.toNat (h.to + h.size).toNat S1 with
    | none => none
    | some S2 => if h.scan < h.bottom then
        (if S2.getD h.scan.toNat 0 = 0 then none else
          match lay ws (h.size - h.to).toNat h.fb.toNat S2 with
          | none => none
          | some S3 => lay ws h.ft.toNat (h.size - h.to + h.size).toNat S3)
      else some S2

def implObjs (ws S : List Int) (h : HpN) (N : Nat) : Bool := (List.range N).all (fun a => S.getD a 0 == 0 || implAt ws S h a)

def implOk (ws : List Int) (h : HpN) : Bool :=
  match implLay ws h with
  | none => false
  | some S => implObjs ws S h ws.length

theorem set_block {W : World} {b : Nat} {c : Array Value} {t : TypeId} (e : W.heap[b]? = some (.cells c t)) (i : Nat) (x : Value) : (W.setCell ⟨b, i, none⟩ x).heap[b]? = some (.cells (c.setIfInBounds i x) t) := by
  rw [setCell_eq_setRow W b i c t (0, 0) x e]
  exact setRow_heap W b _ _ t _ e

theorem set11 (a0 a1 a2 a3 a4 a5 a6 a7 a8 a9 a10 x0 x1 x2 x3 x4 x5 x6 x7 x8 x9 x10 : Value) : (((((((((((#[a0, a1, a2, a3, a4, a5, a6, a7, a8, a9, a10].setIfInBounds 0 x0).setIfInBounds 1 x1).setIfInBounds 2 x2).setIfInBounds 3 x3).setIfInBounds 4 x4).setIfInBounds 5 x5).setIfInBounds 6 x6).setIfInBounds 7 x7).setIfInBounds 8 x8).setIfInBounds 9 x9).setIfInBounds 10 x10) = #[x0, x1, x2, x3, x4, x5, x6, x7, x8, x9, x10] := by
  simp

theorem lay_use {W : World} {b : Nat} {v : Value} {h : HpN} {vs : Value} (e : LayBlk W b v h vs) (v' : Value) (h' : HpN) (vs' : Value) (Q : World → Prop)
    (k : ∀ W' : World, LayBlk W' b v' h' vs' → (∀ B, B ≤ b → Below B W W') → W.heap.size = W'.heap.size → (∀ g, g ≠ b → W'.heap[g]? = W.heap[g]?) → Q W') : Q (((((((((((W.setCell ⟨b, 0, none⟩ v').setCell ⟨b, 1, none⟩ (.int .i64 h'.size)).setCell ⟨b, 2, none⟩ (.int .i64 h'.to)).setCell ⟨b, 3, none⟩ (.int .i64 h'.bottom)).setCell ⟨b, 4, none⟩ (.int .i64 h'.top)).setCell ⟨b, 5, none⟩ (.int .i64 h'.scan)).setCell ⟨b, 6, none⟩ (.int .i64 h'.fb)).setCell ⟨b, 7, none⟩ (.int .i64 h'.ft)).setCell ⟨b, 8, none⟩ (.int .i64 h'.flips)).setCell ⟨b, 9, none⟩ (.int .i64 h'.touched)).setCell ⟨b, 10, none⟩ vs') := by
  refine k _ ?_ (fun B hB => ?_) ?_ (fun g hg => ?_)
  · have e1 := set_block (set_block (set_block (set_block (set_block (set_block (set_block (set_block (set_block (set_block (set_block e 0 v') 1 (.int .i64 h'.size)) 2 (.int .i64 h'.to)) 3 (.int .i64 h'.bottom)) 4 (.int .i64 h'.top)) 5 (.int .i64 h'.scan)) 6 (.int .i64 h'.fb)) 7 (.int .i64 h'.ft)) 8 (.int .i64 h'.flips)) 9 (.int .i64 h'.touched)) 10 vs'
    rw [set11] at e1
    exact e1
  · exact (((((((((((Below.refl B W).setCell hB _).setCell hB _).setCell hB _).setCell hB _).setCell hB _).setCell hB _).setCell hB _).setCell hB _).setCell hB _).setCell hB _).setCell hB _
  · simp [World.setCell]
  · have hh : ∀ (X : World) (i : Nat) (x : Value), (X.setCell ⟨b, i, none⟩ x).heap[g]? = X.heap[g]? := fun X i x => Below.heap_setCell X ⟨b, i, none⟩ x g hg
    simp only [hh]

set_option maxHeartbeats 1000000 in
set_option maxRecDepth 100000 in
theorem layOut_bad (ad : Option Addr) (N cap : Nat) (h : HpN) (w : World) (ho : ¬ Ordered h N) :
    Calls Try.prog 30 #[heapV (.slice ad N cap) h] w fun e w' => e = .returned (.tuple #[noLay, .bool false]) ∧ Below w.heap.size w w' := by
  have HOr := hid (fun w => ordered_calls ad N cap h w)
  rw [decide_eq_false ho] at HOr
  obtain ⟨g1, g2, g3, g4, g5, g6, g7, g8, g9⟩ := h
  unfold heapV at *
  dsimp only at *
  clear ho
  go_enter Try.func30, Try.ntmps30
  go_wp2_with fail
  refine (HOr.out _).mono ?_
  rintro e W1 ⟨rfl, hb1⟩
  obtain ⟨eA, eB, hbw⟩ := two_kept hb1
  obtain ⟨c0, c1, c2, c3, c4, c5, c6, c7, c8, c9, c10⟩ := LayBlk.cells (h := ⟨0, 0, 0, 0, 0, 0, 0, 0, 0⟩) eB
  have f0 := frozen_of_heap eB 0
  have f1 := frozen_of_heap eB 1
  have f2 := frozen_of_heap eB 2
  have f3 := frozen_of_heap eB 3
  have f4 := frozen_of_heap eB 4
  have f5 := frozen_of_heap eB 5
  have f6 := frozen_of_heap eB 6
  have f7 := frozen_of_heap eB 7
  have f8 := frozen_of_heap eB 8
  have f9 := frozen_of_heap eB 9
  have f10 := frozen_of_heap eB 10
  dsimp only at c0 c1 c2 c3 c4 c5 c6 c7 c8 c9 c10
  have HB := hid hbw
  have HE := hid (show LayBlk W1 (w.heap.size + 1) _ ⟨0, 0, 0, 0, 0, 0, 0, 0, 0⟩ _ from eB)
  clear hb1 eA eB hbw HOr
  go_wp2_with fail
  refine lay_use HE.out (.slice none 0 0) ⟨0, 0, 0, 0, 0, 0, 0, 0, 0⟩ (.slice none 0 0) _ ?_
  intro W2 hL hb2 _ _
  obtain ⟨d0, d1, d2, d3, d4, d5, d6, d7, d8, d9, d10⟩ := hL.cells
  dsimp only at d0 d1 d2 d3 d4 d5 d6 d7 d8 d9 d10
  exact bodyPost_ret (v := .tuple #[noLay, .bool false]) (by simp [results, Try.results30, go_sem, noLay, layV, d0, d1, d2, d3, d4, d5, d6, d7, d8, d9, d10]) rfl ⟨rfl, HB.out.trans (hb2 _ (by omega))⟩

theorem ints_made (w : World) (N : Nat) : CellRow 3 (w.alloc (.cells (madeCells #[.int .i64 0] N) 3)) w.heap.size N (intCells (List.replicate N 0)) := by
  refine ⟨N, _, rw_of_row (World.rowIs_made w (.int .i64 0) N 3) N, Nat.le_refl _, fun i hi => ?_⟩
  simp [intCells, List.getD, hi]

theorem lay_same {ws : List Int} {p to : Nat} (S S' : List Int) : lay ws p to S = none ↔ lay ws p to S' = none := by
  by_cases hp : p < to
  · by_cases hn : sizeN (ws.getD p 0) = 0 ∨ to < p + sizeN (ws.getD p 0)
    · rw [lay_bad ws S hp hn, lay_bad ws S' hp hn]
    · rw [lay_next ws S hp hn, lay_next ws S' hp hn]
      exact lay_same _ _
  · rw [lay_end ws S hp, lay_end ws S' hp]
    simp
termination_by to - p
decreasing_by omega

theorem izeros_noted {ws : List Int} {N : Nat} (hN : ws.length = N) : Noted ws (List.replicate N 0) := by
  refine ⟨by simp [hN], fun a ha => absurd ?_ ha⟩
  simp only [List.getD, List.getElem?_replicate]
  split <;> rfl

def SomeRow (gb N sc : Nat) (q : Int) (w : World) : Prop := ∃ S : List Int, S.length = N ∧ CellRow 3 w gb N (intCells S) ∧ S.getD sc 0 = q

structure Loose (gb N sc : Nat) (q : Int) (W : World) where
  w : World
  h : W.grownBy w (some gb)
  r : SomeRow gb N sc q W → SomeRow gb N sc q w

instance (gb N sc : Nat) (q : Int) (W : World) : Nonempty (Loose gb N sc q W) := ⟨⟨W, kept_refl _ _, id⟩⟩

theorem Loose.cell {gb N sc : Nat} {q : Int} {W : World} (x : Loose gb N sc q W) {p : Addr} {v : Value} (hne : p.block ≠ gb) (hlt : p.block < W.heap.size) (h : W.cell? p = some v) : x.w.cell? p = some v :=
  (World.cell?_of_block (w := W) (x.h.block p.block hlt (by simpa using hne))).trans h

theorem wp_region_loose {P : Program} {id : Nat} {Q : Exit → Act → World → Prop} {a : Act} {w : World} {l : List Oper} (gb N sc : Nat) (q : Int) (hm : P.follows .mixedOrders = true) (hB : Region.lexB .any l.toArray = true)
    (h : wpQuiet P l.toArray (fun w' => ∃ x : Loose gb N sc q w, w' = x.w) (fun a' => ∀ w', (∃ x : Loose gb N sc q w, w' = x.w) → Q .normal a' w') l a) : (Code.region id l.toArray true).wp P Q a w :=
  wp_region_quiet (C := fun w' => ∃ x : Loose gb N sc q w, w' = x.w) hm hB ⟨⟨w.drew, ⟨rfl, rfl, rfl, Nat.le_refl _, fun _ _ _ => rfl⟩, fun hr => hr⟩, rfl⟩ (by simpa using h)

theorem LayBlk.loose {gb N sc : Nat} {q : Int} {w : World} {b : Nat} {v : Value} {h : HpN} {vs : Value} (e : LayBlk w b v h vs) (hne : b ≠ gb) :
    (∀ x : Loose gb N sc q w, x.w.cell? ⟨b, 0, none⟩ = some v) ∧ (∀ x : Loose gb N sc q w, x.w.cell? ⟨b, 1, none⟩ = some (.int .i64 h.size)) ∧ (∀ x : Loose gb N sc q w, x.w.cell? ⟨b, 2, none⟩ = some (.int .i64 h.to)) ∧ (∀ x : Loose gb N sc q w, x.w.cell? ⟨b, 3, none⟩ = some (.int .i64 h.bottom)) ∧ (∀ x : Loose gb N sc q w, x.w.cell? ⟨b, 4, none⟩ = some (.int .i64 h.top)) ∧ (∀ x : Loose gb N sc q w, x.w.cell? ⟨b, 5, none⟩ = some (.int .i64 h.scan)) ∧ (∀ x : Loose gb N sc q w, x.w.cell? ⟨b, 6, none⟩ = some (.int .i64 h.fb)) ∧ (∀ x : Loose gb N sc q w, x.w.cell? ⟨b, 7, none⟩ = some (.int .i64 h.ft)) ∧ (∀ x : Loose gb N sc q w, x.w.cell? ⟨b, 8, none⟩ = some (.int .i64 h.flips)) ∧ (∀ x : Loose gb N sc q w, x.w.cell? ⟨b, 9, none⟩ = some (.int .i64 h.touched)) ∧ ∀ x : Loose gb N sc q w, x.w.cell? ⟨b, 10, none⟩ = some vs := by
  obtain ⟨c0, c1, c2, c3, c4, c5, c6, c7, c8, c9, c10⟩ := e.cells
  have hb := heap_lt e
  exact ⟨fun x => x.cell hne hb c0, fun x => x.cell hne hb c1, fun x => x.cell hne hb c2, fun x => x.cell hne hb c3, fun x => x.cell hne hb c4, fun x => x.cell hne hb c5, fun x => x.cell hne hb c6, fun x => x.cell hne hb c7, fun x => x.cell hne hb c8, fun x => x.cell hne hb c9, fun x => x.cell hne hb c10⟩

theorem HeapBlk.loose {gb N sc : Nat} {q : Int} {w : World} {b : Nat} {v : Value} {h : HpN} (e : HeapBlk w b v h) (hne : b ≠ gb) :
    (∀ x : Loose gb N sc q w, x.w.cell? ⟨b, 0, none⟩ = some v) ∧ (∀ x : Loose gb N sc q w, x.w.cell? ⟨b, 1, none⟩ = some (.int .i64 h.size)) ∧ (∀ x : Loose gb N sc q w, x.w.cell? ⟨b, 2, none⟩ = some (.int .i64 h.to)) ∧ (∀ x : Loose gb N sc q w, x.w.cell? ⟨b, 3, none⟩ = some (.int .i64 h.bottom)) ∧ (∀ x : Loose gb N sc q w, x.w.cell? ⟨b, 4, none⟩ = some (.int .i64 h.top)) ∧ (∀ x : Loose gb N sc q w, x.w.cell? ⟨b, 5, none⟩ = some (.int .i64 h.scan)) ∧ (∀ x : Loose gb N sc q w, x.w.cell? ⟨b, 6, none⟩ = some (.int .i64 h.fb)) ∧ (∀ x : Loose gb N sc q w, x.w.cell? ⟨b, 7, none⟩ = some (.int .i64 h.ft)) ∧ (∀ x : Loose gb N sc q w, x.w.cell? ⟨b, 8, none⟩ = some (.int .i64 h.flips)) ∧ ∀ x : Loose gb N sc q w, x.w.cell? ⟨b, 9, none⟩ = some (.int .i64 h.touched) := by
  obtain ⟨c0, c1, c2, c3, c4, c5, c6, c7, c8, c9⟩ := e.cells
  have hb := heap_lt e
  exact ⟨fun x => x.cell hne hb c0, fun x => x.cell hne hb c1, fun x => x.cell hne hb c2, fun x => x.cell hne hb c3, fun x => x.cell hne hb c4, fun x => x.cell hne hb c5, fun x => x.cell hne hb c6, fun x => x.cell hne hb c7, fun x => x.cell hne hb c8, fun x => x.cell hne hb c9⟩

structure LSt (w : World) (b off bR bL gb N : Nat) (ws : List Int) (v : Value) (h : HpN) (S : List Int) (W : World) : Prop where
  wlen : ws.length = N
  blt : b < W.heap.size
  words : ∀ k, k < N → W.cell? ⟨b, off + k, none⟩ = some (.int .i64 (ws.getD k 0))
  heap : HeapBlk W w.heap.size v h
  res : LayBlk W bR (.slice none 0 0) ⟨0, 0, 0, 0, 0, 0, 0, 0, 0⟩ (.slice none 0 0)
  blk : LayBlk W bL v h (.slice (some ⟨gb, 0, none⟩) N N)
  len : S.length = N
  row : CellRow 3 W gb N (intCells S)
  ne : b ≠ gb
  ne1 : w.heap.size ≠ gb
  ne2 : bR ≠ gb
  ne3 : bL ≠ gb
  ne4 : bR ≠ bL
  low : w.heap.size ≤ gb
  lowR : w.heap.size ≤ bR
  below : Below w.heap.size w W

theorem LSt.step {w W W' : World} {b off bR bL gb N : Nat} {ws : List Int} {v : Value} {h : HpN} {S S' : List Int} (s : LSt w b off bR bL gb N ws v h S W) (hg : W.grownBy W' (some gb)) (hl : S'.length = N) (hr : CellRow 3 W' gb N (intCells S')) :
    LSt w b off bR bL gb N ws v h S' W' :=
  ⟨s.wlen, Nat.lt_of_lt_of_le s.blt hg.size, fun k hk => (World.cell?_of_block (w := W) (hg.block b s.blt (by simpa using s.ne))).trans (s.words k hk),
    (hg.block _ (heap_lt s.heap) (by simpa using s.ne1)).trans s.heap, (hg.block _ (heap_lt s.res) (by simpa using s.ne2)).trans s.res, (hg.block _ (heap_lt s.blk) (by simpa using s.ne3)).trans s.blk,
    hl, hr, s.ne, s.ne1, s.ne2, s.ne3, s.ne4, s.low, s.lowR, s.below.grown hg s.below.size (fun k hk => by cases hk; exact s.low)⟩

theorem LSt.keep {w W W' : World} {b off bR bL gb N : Nat} {ws : List Int} {v : Value} {h : HpN} {S : List Int} (s : LSt w b off bR bL gb N ws v h S W) (hb : Below W.heap.size W W') : LSt w b off bR bL gb N ws v h S W' :=
  s.step (kept_of_below hb _) s.len (s.row.of_block (hb.block gb s.row.lt))

theorem lay_loose {b off cap gb N sc : Nat} {q : Int} {P T : Int} {ws S : List Int} {h : HpN} {w W : World} {bR bL : Nat} {v : Value} {h' : HpN} (s : LSt w b off bR bL gb N ws v h' S W) (x : Loose gb N sc q W) (hN2 : N ≤ 8000) (hP : 0 ≤ P) (hT0 : 0 ≤ T) (hT : T ≤ N) (hq : S.getD sc 0 = q) (hout : sc < P.toNat ∨ T.toNat ≤ sc) {ok : Bool}
    (hok : lay ws P.toNat T.toNat S = none ↔ ok = false) :
    Calls Try.prog 59 #[layV (.slice (some ⟨b, off, none⟩) N cap) h (.slice (some ⟨gb, 0, none⟩) N N), .int .i64 P, .int .i64 T] x.w fun e w' => e = .returned (.bool ok) ∧ ∃ y : Loose gb N sc q W, w' = y.w := by
  obtain ⟨S', hl', hr', hq'⟩ := x.r ⟨S, s.len, s.row, hq⟩
  refine (implLay_at b off cap gb N N P T ws S' h x.w hl' hN2 hP hT0 hT (Nat.lt_of_lt_of_le s.blt x.h.size) (fun k hk => x.cell (p := ⟨b, off + k, none⟩) s.ne s.blt (s.words k hk)) s.ne hr').mono ?_
  rintro e w' ⟨⟨ok', rfl, hres⟩, hg⟩
  have hgg : W.grownBy w' (some gb) := ⟨hg.os.trans x.h.os, hg.tape.trans x.h.tape, hg.output.trans x.h.output, Nat.le_trans x.h.size hg.size, fun k hk hne => (hg.block k (Nat.lt_of_lt_of_le hk x.h.size) hne).trans (x.h.block k hk hne)⟩
  have hsame := lay_same (ws := ws) (p := P.toNat) (to := T.toNat) S S'
  rcases hres with ⟨hn, rfl, S2, hl2, hr2, hk2⟩ | ⟨S2, hs2, rfl, hl2, hr2⟩
  · have e1 : ok = false := hok.1 (hsame.2 hn)
    rw [e1]
    exact ⟨rfl, ⟨w', hgg, fun _ => ⟨S2, hl2, hr2, (hk2 sc hout).trans hq'⟩⟩, rfl⟩
  · have e1 : ok = true := by
      cases ok with
      | true => rfl
      | false =>
        have := hsame.1 (hok.2 rfl)
        rw [hs2] at this
        cases this
    rw [e1]
    exact ⟨rfl, ⟨w', hgg, fun _ => ⟨S2, hl2, hr2, (lay_else hs2 sc hout).trans hq'⟩⟩, rfl⟩

theorem other_loose {gb N sc : Nat} {q : Int} {W : World} (x : Loose gb N sc q W) {v : Value} {h : HpN} (hgb : gb < W.heap.size) (h0 : 0 ≤ h.to) (h1 : h.to ≤ 4000) (h2 : 0 ≤ h.size) (h3 : h.size ≤ 4000) :
    Calls Try.prog 60 #[heapV v h] x.w fun e w' => e = .returned (.int .i64 (h.size - h.to)) ∧ ∃ y : Loose gb N sc q W, w' = y.w := by
  refine (other_calls v h x.w h0 h1 h2 h3).mono ?_
  rintro e w' ⟨rfl, hb⟩
  refine ⟨rfl, ⟨w', ⟨hb.os.trans x.h.os, hb.tape.trans x.h.tape, hb.output.trans x.h.output, Nat.le_trans x.h.size hb.size, fun k hk hne => (hb.block k (Nat.lt_of_lt_of_le hk x.h.size)).trans (x.h.block k hk hne)⟩, fun hr => ?_⟩, rfl⟩
  obtain ⟨S', hl, hr', hq'⟩ := x.r hr
  exact ⟨S', hl, hr'.of_block (hb.block gb (Nat.lt_of_lt_of_le hgb x.h.size)), hq'⟩

theorem lay_exact {b off cap gb N : Nat} {P T : Int} {ws S S3 : List Int} {h : HpN} {w W : World} {bR bL : Nat} {v : Value} {h' : HpN} (s : LSt w b off bR bL gb N ws v h' S W) (hN2 : N ≤ 8000) (hP : 0 ≤ P) (hT0 : 0 ≤ T) (hT : T ≤ N)
    (hs : lay ws P.toNat T.toNat S = some S3) :
    Calls Try.prog 59 #[layV (.slice (some ⟨b, off, none⟩) N cap) h (.slice (some ⟨gb, 0, none⟩) N N), .int .i64 P, .int .i64 T] W fun e w' => e = .returned (.bool true) ∧ LSt w b off bR bL gb N ws v h' S3 w' := by
  refine (implLay_at b off cap gb N N P T ws S h W s.len hN2 hP hT0 hT s.blt s.words s.ne s.row).mono ?_
  rintro e w' ⟨⟨ok', rfl, hres⟩, hg⟩
  rw [hs] at hres
  rcases hres with ⟨hn, _⟩ | ⟨S2, hs2, rfl, hl2, hr2⟩
  · cases hn
  · cases hs2
    exact ⟨rfl, s.step hg hl2 hr2⟩

theorem Loose.at {gb N sc : Nat} {q : Int} {W : World} (x : Loose gb N sc q W) (hr : SomeRow gb N sc q W) (hsc : sc < N) : x.w.cell? ⟨gb, sc, none⟩ = some (.int .i64 q) := by
  obtain ⟨S', hl, hr', hq'⟩ := x.r hr
  rw [hr'.cell hsc]
  unfold intCells
  rw [hq']

theorem lay_fails {b off cap gb N sc : Nat} {q : Int} {P T : Int} {ws S : List Int} {h : HpN} {w W : World} {bR bL : Nat} {v : Value} {h' : HpN} (s : LSt w b off bR bL gb N ws v h' S W) (hN2 : N ≤ 8000) (hP : 0 ≤ P) (hT0 : 0 ≤ T) (hT : T ≤ N)
    (hs : lay ws P.toNat T.toNat S = none) (hq : S.getD sc 0 = q) (hout : sc < P.toNat ∨ T.toNat ≤ sc) :
    Calls Try.prog 59 #[layV (.slice (some ⟨b, off, none⟩) N cap) h (.slice (some ⟨gb, 0, none⟩) N N), .int .i64 P, .int .i64 T] W fun e w' => e = .returned (.bool false) ∧ ∃ S4 : List Int, S4.getD sc 0 = q ∧ LSt w b off bR bL gb N ws v h' S4 w' := by
  refine (implLay_at b off cap gb N N P T ws S h W s.len hN2 hP hT0 hT s.blt s.words s.ne s.row).mono ?_
  rintro e w' ⟨⟨ok', rfl, hres⟩, hg⟩
  rw [hs] at hres
  rcases hres with ⟨_, rfl, S4, hl4, hr4, hk4⟩ | ⟨S2, hs2, _⟩
  · exact ⟨rfl, S4, (hk4 sc hout).trans hq, s.step hg hl4 hr4⟩
  · cases hs2
end Go.Proofs.Ytebpgglegnljgaa

namespace Go.Proofs.Ytebpgglegnljgaa
open Go.RowKit

def ColBlk (w : World) (b : Nat) (v : Value) (h : HpN) (r t : Int) : Prop := w.heap[b]? = some (.cells #[v, .int .i64 h.size, .int .i64 h.to, .int .i64 h.bottom, .int .i64 h.top, .int .i64 h.scan, .int .i64 h.fb, .int .i64 h.ft, .int .i64 h.flips, .int .i64 h.touched, .int .i64 r, .int .i64 t] 102)

theorem ColBlk.cells {w : World} {b : Nat} {v : Value} {h : HpN} {r t : Int} (e : ColBlk w b v h r t) :
    w.cell? ⟨b, 0, none⟩ = some v ∧ w.cell? ⟨b, 1, none⟩ = some (.int .i64 h.size) ∧ w.cell? ⟨b, 2, none⟩ = some (.int .i64 h.to) ∧ w.cell? ⟨b, 3, none⟩ = some (.int .i64 h.bottom) ∧ w.cell? ⟨b, 4, none⟩ = some (.int .i64 h.top) ∧ w.cell? ⟨b, 5, none⟩ = some (.int .i64 h.scan) ∧ w.cell? ⟨b, 6, none⟩ = some (.int .i64 h.fb) ∧ w.cell? ⟨b, 7, none⟩ = some (.int .i64 h.ft) ∧ w.cell? ⟨b, 8, none⟩ = some (.int .i64 h.flips) ∧ w.cell? ⟨b, 9, none⟩ = some (.int .i64 h.touched) ∧ w.cell? ⟨b, 10, none⟩ = some (.int .i64 r) ∧ w.cell? ⟨b, 11, none⟩ = some (.int .i64 t) := by
  refine ⟨?_, ?_, ?_, ?_, ?_, ?_, ?_, ?_, ?_, ?_, ?_, ?_⟩ <;> · rw [cell_of_heap e]; rfl

structure Frm (w0 : World) (b1 b2 : Nat) (W : World) : Prop where
  os : W.os = w0.os
  tape : W.tape = w0.tape
  output : W.output = w0.output
  size : w0.heap.size ≤ W.heap.size
  block : ∀ g, g < w0.heap.size → g ≠ b1 → g ≠ b2 → W.heap[g]? = w0.heap[g]?

theorem Frm.refl (w : World) (b1 b2 : Nat) : Frm w b1 b2 w := ⟨rfl, rfl, rfl, Nat.le_refl _, fun _ _ _ _ => rfl⟩

theorem Frm.keep {w0 W W' : World} {b1 b2 : Nat} (f : Frm w0 b1 b2 W) (hb : Below W.heap.size W W') : Frm w0 b1 b2 W' :=
  ⟨hb.os.trans f.os, hb.tape.trans f.tape, hb.output.trans f.output, Nat.le_trans f.size hb.size, fun g hg h1 h2 => (hb.block g (Nat.lt_of_lt_of_le hg f.size)).trans (f.block g hg h1 h2)⟩

theorem Frm.set {w0 W : World} {b1 b2 : Nat} (f : Frm w0 b1 b2 W) {p : Addr} (hp : p.block = b1 ∨ p.block = b2) (v : Value) : Frm w0 b1 b2 (W.setCell p v) :=
  ⟨f.os, f.tape, f.output, by simpa [World.setCell] using f.size, fun g hg h1 h2 => (Below.heap_setCell _ _ _ _ (by rcases hp with h | h <;> rw [h] <;> assumption)).trans (f.block g hg h1 h2)⟩

theorem Frm.of_below {w0 W : World} {b1 b2 : Nat} (h : Below w0.heap.size w0 W) : Frm w0 b1 b2 W := ⟨h.os, h.tape, h.output, h.size, fun g hg _ _ => h.block g hg⟩

theorem Frm.below {w0 W : World} {b1 b2 : Nat} (f : Frm w0 b1 b2 W) (h1 : w0.heap.size ≤ b1) (h2 : w0.heap.size ≤ b2) : Below w0.heap.size w0 W :=
  ⟨f.os, f.tape, f.output, f.size, fun g hg => f.block g hg (by omega) (by omega)⟩

structure Col (w0 : World) (bc bw N cap : Nat) (ws : List Int) (h : HpN) (r t : Int) (W : World) : Prop where
  blk : ColBlk W bc (.slice (some ⟨bw, 0, none⟩) N cap) h r t
  row : CellRow 3 W bw N (intCells ws)
  len : ws.length = N
  ne : bc ≠ bw
  frame : Frm w0 bc bw W

theorem Col.keep {w0 W W' : World} {bc bw N cap : Nat} {ws : List Int} {h : HpN} {r t : Int} (c : Col w0 bc bw N cap ws h r t W) (hb : Below W.heap.size W W') : Col w0 bc bw N cap ws h r t W' :=
  ⟨(hb.block bc (heap_lt c.blk)).trans c.blk, c.row.of_block (hb.block bw c.row.lt), c.len, c.ne, c.frame.keep hb⟩

theorem Col.rebase {w0 W : World} {bc bw N cap : Nat} {ws : List Int} {h : HpN} {r t : Int} (c : Col w0 bc bw N cap ws h r t W) (w1 : World) (f : Frm w1 bc bw W) : Col w1 bc bw N cap ws h r t W := ⟨c.blk, c.row, c.len, c.ne, f⟩

theorem Col.reads {w0 W : World} {bc bw N cap : Nat} {ws : List Int} {h : HpN} {r t : Int} (c : Col w0 bc bw N cap ws h r t W) (r' : Int) : Col w0 bc bw N cap ws h r' t (W.setCell ⟨bc, 10, none⟩ (.int .i64 r')) :=
  ⟨by simpa [ColBlk] using set_block c.blk 10 (.int .i64 r'), c.row.of_block (Below.heap_setCell _ _ _ _ (fun e => c.ne e.symm)), c.len, c.ne, c.frame.set (Or.inl rfl) _⟩

theorem Col.wrote {w0 W : World} {bc bw N cap : Nat} {ws : List Int} {h : HpN} {r t : Int} (c : Col w0 bc bw N cap ws h r t W) (t' : Int) : Col w0 bc bw N cap ws h r t' (W.setCell ⟨bc, 11, none⟩ (.int .i64 t')) :=
  ⟨by simpa [ColBlk] using set_block c.blk 11 (.int .i64 t'), c.row.of_block (Below.heap_setCell _ _ _ _ (fun e => c.ne e.symm)), c.len, c.ne, c.frame.set (Or.inl rfl) _⟩

theorem Col.bottom {w0 W : World} {bc bw N cap : Nat} {ws : List Int} {h : HpN} {r t : Int} (c : Col w0 bc bw N cap ws h r t W) (x : Int) : Col w0 bc bw N cap ws { h with bottom := x } r t (W.setCell ⟨bc, 3, none⟩ (.int .i64 x)) :=
  ⟨by simpa [ColBlk] using set_block c.blk 3 (.int .i64 x), c.row.of_block (Below.heap_setCell _ _ _ _ (fun e => c.ne e.symm)), c.len, c.ne, c.frame.set (Or.inl rfl) _⟩

theorem Col.word {w0 W : World} {bc bw N cap : Nat} {ws : List Int} {h : HpN} {r t : Int} (c : Col w0 bc bw N cap ws h r t W) {i : Nat} (hi : i < N) (x : Int) : Col w0 bc bw N cap (ws.set i x) h r t (W.setCell ⟨bw, i, none⟩ (.int .i64 x)) := by
  obtain ⟨N', f, hrow, hN', hf⟩ := c.row
  refine ⟨(Below.heap_setCell _ _ _ _ c.ne).trans c.blk, ⟨N', _, hrow.set i _, hN', int_set ws i (by rw [c.len]; exact hi) x hf⟩, by rw [List.length_set]; exact c.len, c.ne, c.frame.set (Or.inr rfl) _⟩

set_option maxRecDepth 100000 in
theorem read_calls {w0 W : World} {bc bw N cap : Nat} {ws : List Int} {h : HpN} {r t : Int} (c : Col w0 bc bw N cap ws h r t W) {i : Nat} (hi : i < N) (h0 : 0 ≤ r) (h1 : r ≤ 80000) :
    Calls Try.prog 77 #[.pointer (some ⟨bc, 0, none⟩), .int .i64 (i : Int)] W fun e w' => e = .returned (.int .i64 (ws.getD i 0)) ∧ Col w0 bc bw N cap ws h (r + 1) t w' := by
  have HC := hid c
  have c10 := c.blk.cells.2.2.2.2.2.2.2.2.2.2.1
  have c0 := c.blk.cells.1
  have f10 := frozen_of_heap c.blk 10
  have q0 := c.row.cell (i := i) hi
  unfold intCells at q0
  have hne := c.ne
  clear c
  go_enter Try.func77, Try.ntmps77
  go_wp2_with fail
  go_region
  all_goals go_wp2_with fail
  all_goals go_ret
  all_goals exact ⟨rfl, (HC.out.reads _).keep (Below.refl _ _).drew⟩

set_option maxRecDepth 100000 in
theorem write_calls {w0 W : World} {bc bw N cap : Nat} {ws : List Int} {h : HpN} {r t : Int} (c : Col w0 bc bw N cap ws h r t W) {i : Nat} (hi : i < N) (x : Int) (h0 : 0 ≤ t) (h1 : t ≤ 80000) :
    Calls Try.prog 72 #[.pointer (some ⟨bc, 0, none⟩), .int .i64 (i : Int), .int .i64 x] W fun e w' => e = .returned (.tuple #[]) ∧ Col w0 bc bw N cap (ws.set i x) h r (t + 1) w' := by
  have HC := hid c
  have c11 := c.blk.cells.2.2.2.2.2.2.2.2.2.2.2
  have c0 := c.blk.cells.1
  have f11 := frozen_of_heap c.blk 11
  have q0 := c.row.cell (i := i) hi
  obtain ⟨_, _, hrow, _, _⟩ := c.row
  have q1 := hrow.frozen i hi
  clear hrow
  unfold intCells at q0
  have hne := c.ne
  clear c
  go_enter Try.func72, Try.ntmps72
  go_wp2_with fail
  go_region
  all_goals go_wp2_with fail
  all_goals go_end0
  all_goals exact ⟨rfl, ((HC.out.wrote _).word hi x).keep (Below.refl _ _).drew⟩

set_option maxRecDepth 100000 in
theorem hasRoom_calls {w0 W : World} {bc bw N cap : Nat} {ws : List Int} {h : HpN} {r t : Int} (c : Col w0 bc bw N cap ws h r t W) (n : Int) (h0 : 0 ≤ h.bottom) (h1 : h.bottom ≤ 8000) (h2 : 0 ≤ h.top) (h3 : h.top ≤ 8000) :
    Calls Try.prog 70 #[.pointer (some ⟨bc, 0, none⟩), .int .i64 n] W fun e w' => e = .returned (.bool (decide (n ≤ h.top - h.bottom))) ∧ Below W.heap.size W w' := by
  have c3 := c.blk.cells.2.2.2.1
  have c4 := c.blk.cells.2.2.2.2.1
  clear c
  go_enter Try.func70, Try.ntmps70
  go_wp2_with fail
  go_region
  all_goals go_wp2_with fail
  all_goals go_ret
  all_goals exact ⟨rfl, (Below.refl _ _).drew⟩
end Go.Proofs.Ytebpgglegnljgaa

namespace Go.Proofs.Ytebpgglegnljgaa
open Go.RowKit

def lateZ (h : HpN) (x : Int) : Bool := decide (x % 8 = 0) && decide (h.size - h.to ≤ x / 8 ∧ x / 8 < h.size - h.to + h.size)

theorem ColBlk.later {B : Nat} {w : World} {b : Nat} {v : Value} {h : HpN} {r t : Int} (e : ColBlk w b v h r t) (hb : b < B) :
    (∀ x : Later B w, x.w.cell? ⟨b, 0, none⟩ = some v) ∧ (∀ x : Later B w, x.w.cell? ⟨b, 1, none⟩ = some (.int .i64 h.size)) ∧ (∀ x : Later B w, x.w.cell? ⟨b, 2, none⟩ = some (.int .i64 h.to)) ∧ (∀ x : Later B w, x.w.cell? ⟨b, 3, none⟩ = some (.int .i64 h.bottom)) ∧ (∀ x : Later B w, x.w.cell? ⟨b, 4, none⟩ = some (.int .i64 h.top)) ∧ (∀ x : Later B w, x.w.cell? ⟨b, 5, none⟩ = some (.int .i64 h.scan)) ∧ (∀ x : Later B w, x.w.cell? ⟨b, 6, none⟩ = some (.int .i64 h.fb)) ∧ (∀ x : Later B w, x.w.cell? ⟨b, 7, none⟩ = some (.int .i64 h.ft)) ∧ (∀ x : Later B w, x.w.cell? ⟨b, 8, none⟩ = some (.int .i64 h.flips)) ∧ ∀ x : Later B w, x.w.cell? ⟨b, 9, none⟩ = some (.int .i64 h.touched) := by
  obtain ⟨c0, c1, c2, c3, c4, c5, c6, c7, c8, c9, -, -⟩ := e.cells
  exact ⟨fun x => x.cell hb c0, fun x => x.cell hb c1, fun x => x.cell hb c2, fun x => x.cell hb c3, fun x => x.cell hb c4, fun x => x.cell hb c5, fun x => x.cell hb c6, fun x => x.cell hb c7, fun x => x.cell hb c8, fun x => x.cell hb c9⟩

set_option maxHeartbeats 1000000 in
set_option maxRecDepth 100000 in
theorem isOld_calls {w0 W : World} {bc bw N cap : Nat} {ws : List Int} {h : HpN} {r t : Int} (c : Col w0 bc bw N cap ws h r t W) (x : Int) (h0 : 0 ≤ h.to) (h1 : h.to ≤ h.size) (h3 : h.size ≤ 4000) :
    Calls Try.prog 79 #[.pointer (some ⟨bc, 0, none⟩), .int .i64 x] W fun e w' => e = .returned (.bool (lateZ h x)) ∧ Below W.heap.size W w' := by
  have HWi := hid (fun w => within_calls (.slice (some ⟨bw, 0, none⟩) N cap) h (x / 8) (h.size - h.to) w (by omega) (by omega) (by omega) h3)
  have HOt := hid (fun w => other_calls (.slice (some ⟨bw, 0, none⟩) N cap) h w h0 (by omega) (by omega) h3)
  have hbc := heap_lt c.blk
  obtain ⟨v0, v1, v2, v3, v4, v5, v6, v7, v8, v9⟩ := c.blk.later (B := W.heap.size) hbc
  clear c
  obtain ⟨g1, g2, g3, g4, g5, g6, g7, g8, g9⟩ := h
  unfold heapV at *
  dsimp only at *
  by_cases ht : x % 8 = 0
  · have HT : Hid (∀ w, Calls Try.prog 23 #[.int .i64 x] w fun e w' => e = .returned (.int .i64 0) ∧ w = w') := fun w => by
      have := implTag_calls x w
      unfold tagZ at this
      rw [ht] at this
      exact this
    have HNum := hid (fun w => implNum_calls x w)
    unfold numZ at HNum
    have hA : lateZ ⟨g1, g2, g3, g4, g5, g6, g7, g8, g9⟩ x = decide (g1 - g2 ≤ x / 8 ∧ x / 8 < g1 - g2 + g1) := by unfold lateZ; rw [decide_eq_true ht, Bool.true_and]
    rw [hA]
    clear hA ht
    generalize decide (g1 - g2 ≤ x / 8 ∧ x / 8 < g1 - g2 + g1) = d at *
    generalize x / 8 = k at *
    generalize g1 - g2 = o at *
    go_enter Try.func79, Try.ntmps79
    go_wp2_with fail
    refine wp_region_calm W.heap.size (by kernel_rfl) (by kernel_rfl) ?_
    repeat (go_big_quiet_step (first | (rename_i x; go_at_call 23; refine (HT.out _).mono ?_; rintro e w5 ⟨rfl, rfl⟩; exact ⟨rfl, x, rfl⟩) | (rename_i x; go_at_call 52; refine (HNum.out _).mono ?_; rintro e w5 ⟨rfl, rfl⟩; exact ⟨rfl, x, rfl⟩) | (rename_i x; go_at_call 60; refine (HOt.out _).mono ?_; rintro e w5 ⟨rfl, hb5⟩; exact ⟨rfl, ⟨w5, x.h.trans (hb5.mono x.h.size)⟩, rfl⟩) | (rename_i x; go_at_call 78; refine (HWi.out _).mono ?_; rintro e w5 ⟨rfl, hb5⟩; exact ⟨rfl, ⟨w5, x.h.trans (hb5.mono x.h.size)⟩, rfl⟩)))
    refine wpQuiet_nil ?_
    rintro w5 ⟨x, rfl⟩
    have HBx := hid x.h
    clear v0 v1 v2 v3 v4 v5 v6 v7 v8 v9
    go_wp2_with fail
    go_ret
    exact ⟨rfl, HBx.out⟩
  · have hA : lateZ ⟨g1, g2, g3, g4, g5, g6, g7, g8, g9⟩ x = false := by unfold lateZ; rw [decide_eq_false ht, Bool.false_and]
    have HT := hid (fun w => implTag_calls x w)
    have ht0 : (tagZ x == 0) = false := by unfold tagZ; simpa using ht
    have ht1 : ¬ tagZ x = 0 := ht
    rw [hA]
    clear hA ht
    generalize tagZ x = t at *
    go_enter Try.func79, Try.ntmps79
    go_wp2_with fail
    refine wp_region_calm W.heap.size (by kernel_rfl) (by kernel_rfl) ?_
    repeat (go_big_quiet_step (first | (rename_i x; go_at_call 23; refine (HT.out _).mono ?_; rintro e w5 ⟨rfl, rfl⟩; exact ⟨rfl, x, rfl⟩)))
    refine wpQuiet_nil ?_
    rintro w5 ⟨x, rfl⟩
    have HBx := hid x.h
    clear v0 v1 v2 v3 v4 v5 v6 v7 v8 v9
    go_wp2_with fail
    go_ret
    exact ⟨rfl, HBx.out⟩
end Go.Proofs.Ytebpgglegnljgaa

namespace Go.Proofs.Ytebpgglegnljgaa
open Go.RowKit

def copyW (ws : List Int) (a to : Nat) : Nat → List Int
  | 0 => ws
  | n + 1 => (copyW ws a to n).set (to + n) ((copyW ws a to n).getD (a + n) 0)

theorem copyW_length (ws : List Int) (a to n : Nat) : (copyW ws a to n).length = ws.length := by
  induction n with
  | zero => rfl
  | succ n ih => rw [copyW, List.length_set, ih]

set_option maxRecDepth 100000 in
theorem head_calls (n : Nat) (hn : n = 3 ∨ n = 6) (w : World) : Calls Try.prog 73 #[.int .i64 15, .int .i64 (n : Int)] w fun e w' => e = .returned (.int .i64 ((n : Int) * 16 + 15)) ∧ w = w' := by
  rcases hn with rfl | rfl
  · go_enter Try.func73, Try.ntmps73
    go_wp2
    go_ret
    exact ⟨rfl, rfl⟩
  · go_enter Try.func73, Try.ntmps73
    go_wp2
    go_ret
    exact ⟨rfl, rfl⟩

set_option maxRecDepth 100000 in
theorem move_stays {w0 W : World} {bc bw N cap : Nat} {ws : List Int} {h : HpN} {r t : Int} (c : Col w0 bc bw N cap ws h r t W) (x : Int) (h0 : 0 ≤ h.to) (h1 : h.to ≤ h.size) (h3 : h.size ≤ 4000) (hold : lateZ h x = false) :
    Calls Try.prog 80 #[.pointer (some ⟨bc, 0, none⟩), .int .i64 x] W fun e w' => e = .returned (.tuple #[.int .i64 x, .bool true]) ∧ Col w0 bc bw N cap ws h r t w' := by
  have HIo := hid (isOld_calls c x h0 h1 h3)
  rw [hold] at HIo
  have HC := hid c
  clear c
  go_enter Try.func80, Try.ntmps80
  go_wp2_with fail
  refine HIo.out.mono ?_
  rintro e W1 ⟨rfl, hb1⟩
  have HC1 := hid (HC.out.keep hb1)
  clear hb1 HIo
  go_wp2_with fail
  exact bodyPost_ret (v := .tuple #[.int .i64 x, .bool true]) (by simp [results, Try.results80, go_sem]) rfl ⟨rfl, HC1.out⟩

set_option maxRecDepth 100000 in
theorem move_copies {w0 W : World} {bc bw N cap : Nat} {ws : List Int} {h : HpN} {r t : Int} (c : Col w0 bc bw N cap ws h r t W) (x : Int) (a to n : Nat) (h0 : 0 ≤ h.to) (h1 : h.to ≤ h.size) (h3 : h.size ≤ 4000) (hold : lateZ h x = true)
    (ha : x / 8 = a) (hto : h.bottom = to) (hN : N ≤ 8000) (hn : n = 3 ∨ n = 6) (hf : ws.getD a 0 / 16 = n) (hk : ws.getD a 0 % 16 ≠ 15) (hroom : (n : Int) ≤ h.top - to) (htop : h.top ≤ N) (han : a + n ≤ N) (hr0 : 0 ≤ r) (hr1 : r ≤ 70000) (ht0 : 0 ≤ t) (ht1 : t ≤ 70000) :
    Calls Try.prog 80 #[.pointer (some ⟨bc, 0, none⟩), .int .i64 x] W fun e w' => e = .returned (.tuple #[.int .i64 (8 * (to : Int)), .bool true]) ∧ Col w0 bc bw N cap (((copyW ws a to n).set a ((n : Int) * 16 + 15)).set (a + 1) (8 * (to : Int))) { h with bottom := (to : Int) + n } (r + n) (t + n + 2) w' := by
  have HIo := hid (isOld_calls c x h0 h1 h3)
  rw [hold] at HIo
  have HNum := hid (fun w => implNum_calls x w)
  unfold numZ at HNum
  rw [ha] at HNum
  have HC := hid c
  clear c
  go_enter Try.func80, Try.ntmps80
  go_wp2_with fail
  refine HIo.out.mono ?_
  rintro e W1 ⟨rfl, hb1⟩
  have HC1 := hid (HC.out.keep hb1)
  have v3 := (HC1.out.blk.later (B := W1.heap.size) (heap_lt HC1.out.blk)).2.2.2.1
  rw [hto] at v3
  have hk1 : (bits .and .i64 (ws.getD a 0) 15 == 15) = false := by rw [and15]; simpa using hk
  clear hk
  have HTo := hid hto
  have HTp := hid htop
  have HRoom := hid hroom
  clear hb1 HIo hold ha hto htop hroom
  go_wp2_with fail
  refine wp_region_calm W1.heap.size (by kernel_rfl) (by kernel_rfl) ?_
  repeat (go_big_quiet_step (first | (rename_i x; go_at_call 52; refine (HNum.out _).mono ?_; rintro e w5 ⟨rfl, rfl⟩; exact ⟨rfl, x, rfl⟩)))
  refine wpQuiet_nil ?_
  rintro w5 ⟨y, rfl⟩
  have HC2 := hid (HC1.out.keep y.h)
  have HRd := hid (read_calls HC2.out (i := a) (by omega) hr0 (by omega))
  clear v3
  generalize y.w = W2 at *
  go_wp2_with fail
  refine HRd.out.mono ?_
  rintro e W3 ⟨rfl, hC3⟩
  have HC3 := hid hC3
  clear hC3 HRd
  have HF0 : Hid (copyW ws a to 1 = ws.set to (ws.getD a 0)) := rfl
  have HHr := hid (hasRoom_calls HC3.out (n : Int) (by rw [HTo.out]; omega) (by have := HRoom.out; have := HTp.out; rw [HTo.out]; omega) (by have := HRoom.out; omega) (by have := HTp.out; omega))
  rw [HTo.out, decide_eq_true HRoom.out] at HHr
  have hto1 : to + n ≤ N := by have := HRoom.out; have := HTp.out; omega
  generalize ws.getD a 0 = F at *
  have HWr := hid (fun (X : World) (b : Below W3.heap.size W3 X) => write_calls (HC3.out.keep b) (i := to) (by omega) F ht0 (by omega))
  go_wp2_with fail
  refine HHr.out.mono ?_
  rintro e W4 ⟨rfl, hb4⟩
  have HW4 := hid (HWr.out W4 hb4)
  rw [← HF0.out] at HW4
  clear hb4 HWr HHr HC3 HC2 HC1 HC HNum
  go_wp2_with fail
  refine HW4.out.mono ?_
  rintro e W5 ⟨rfl, hC5⟩
  clear HW4
  have HC5 := hid hC5
  clear hC5
  go_wp2_with fail
  go_loopw [11] (fun i wr => ∃ p : Nat, i = .int .i64 p ∧ p ≤ n ∧ Hid (1 ≤ p) ∧ Hid (Col w0 bc bw N cap (copyW ws a to p) h (r + p) (t + p) wr)) (fun i _ => n - (intOf i).toNat)
  case atStart => exact ⟨1, rfl, by omega, Nat.le_refl _, HC5.out⟩
  case round =>
    obtain ⟨p, rfl, hpn, HP, HI⟩ := hrel
    clear HC5
    by_cases hlt : (p : Int) < (n : Int)
    · have HRd := hid (read_calls HI.out (i := a + p) (by omega) (by omega) (by omega))
      rw [Int.natCast_add] at HRd
      go_wp2_with fail
      refine HRd.out.mono ?_
      rintro e W6 ⟨rfl, hC6⟩
      have HWr := hid (write_calls hC6 (i := to + p) (by omega) ((copyW ws a to p).getD (a + p) 0) (by omega) (by omega))
      rw [Int.natCast_add] at HWr
      have HS : Hid (copyW ws a to (p + 1) = (copyW ws a to p).set (to + p) ((copyW ws a to p).getD (a + p) 0)) := rfl
      rw [← HS.out] at HWr
      clear hC6 HRd HS HI
      generalize (copyW ws a to p).getD (a + p) 0 = y at *
      go_wp2_with fail
      refine HWr.out.mono ?_
      rintro e W7 ⟨rfl, hC7⟩
      have HC7 := hid hC7
      clear hC7 HWr
      go_wp2_with fail
      have hs : n - (intOf (.int .i64 ((p : Int) + 1))).toNat < n - (intOf (.int .i64 (p : Int))).toNat := by simp only [intOf, Int.toNat_natCast]; omega
      refine ⟨⟨p + 1, ?_, by omega, Nat.le_add_left _ _, ?_⟩, hs⟩
      · push_cast
        rfl
      · push_cast
        rw [← Int.add_assoc, ← Int.add_assoc]
        exact HC7.out
    · obtain rfl : p = n := by omega
      have c3 := HI.out.blk.cells.2.2.2.1
      rw [HTo.out] at c3
      have f3 := frozen_of_heap HI.out.blk 3
      have HMk := hid (fun w => implMake_calls 0 (to : Int) w)
      have HMz : Hid (makeZ 0 (to : Int) = 8 * (to : Int)) := by
        show _ = _
        unfold makeZ wrap64
        rw [if_neg (by omega)]
        omega
      rw [HMz.out] at HMk
      have HHd := hid (fun w => head_calls p hn w)
      have HW1 := hid (fun (X : World) (b : Below (wr.setCell ⟨bc, 3, none⟩ (.int .i64 ((to : Int) + p))).heap.size (wr.setCell ⟨bc, 3, none⟩ (.int .i64 ((to : Int) + p))) X) => write_calls ((HI.out.bottom ((to : Int) + p)).keep b) (i := a) (by omega) ((p : Int) * 16 + 15) (by omega) (by omega))
      clear HMz HI
      go_wp2_with fail
      refine (HHd.out _).mono ?_
      rintro e W6 ⟨rfl, rfl⟩
      go_wp2_with fail
      refine (HW1.out _ (by first | exact Below.refl _ _ | exact (Below.refl _ _).drew)).mono ?_
      rintro e W7 ⟨rfl, hC7⟩
      have HC7 := hid hC7
      clear hC7 HW1 HHd c3 f3
      have HW2 := hid (fun (X : World) (b : Below W7.heap.size W7 X) => write_calls (HC7.out.keep b) (i := a + 1) (by omega) (8 * (to : Int)) (by omega) (by omega))
      rw [show ((a + 1 : Nat) : Int) = (a : Int) + 1 from rfl] at HW2
      go_wp2_with fail
      refine (HMk.out _).mono ?_
      rintro e W8 ⟨rfl, rfl⟩
      go_wp2_with fail
      refine (HW2.out _ (by first | exact Below.refl _ _ | exact (Below.refl _ _).drew)).mono ?_
      rintro e W9 ⟨rfl, hC9⟩
      have HC9 := hid hC9
      clear hC9 HW2 HC7
      go_wp2_with fail
      refine (HMk.out _).mono ?_
      rintro e W8 ⟨rfl, rfl⟩
      go_wp2_with fail
      refine bodyPost_ret (v := .tuple #[.int .i64 (8 * (to : Int)), .bool true]) (by simp [results, Try.results80, go_sem]) rfl ⟨rfl, ?_⟩
      have E : t + (p : Int) + 1 + 1 = t + p + 2 := by omega
      rw [← E]
      first | exact HC9.out | exact HC9.out.keep (Below.refl _ _).drew
end Go.Proofs.Ytebpgglegnljgaa

namespace Go.Proofs.Ytebpgglegnljgaa
open Go.RowKit

set_option maxRecDepth 100000 in
theorem move_moved {w0 W : World} {bc bw N cap : Nat} {ws : List Int} {h : HpN} {r t : Int} (c : Col w0 bc bw N cap ws h r t W) (x : Int) (a : Nat) (h0 : 0 ≤ h.to) (h1 : h.to ≤ h.size) (h3 : h.size ≤ 4000) (hold : lateZ h x = true)
    (ha : x / 8 = a) (hk : ws.getD a 0 % 16 = 15) (han : a + 1 < N) (hN : N ≤ 8000) (hr0 : 0 ≤ r) (hr1 : r ≤ 70000) :
    Calls Try.prog 80 #[.pointer (some ⟨bc, 0, none⟩), .int .i64 x] W fun e w' => e = .returned (.tuple #[.int .i64 (ws.getD (a + 1) 0), .bool true]) ∧ Col w0 bc bw N cap ws h (r + 1 + 1) t w' := by
  have HIo := hid (isOld_calls c x h0 h1 h3)
  rw [hold] at HIo
  have HNum := hid (fun w => implNum_calls x w)
  unfold numZ at HNum
  rw [ha] at HNum
  have HC := hid c
  clear c
  go_enter Try.func80, Try.ntmps80
  go_wp2_with fail
  refine HIo.out.mono ?_
  rintro e W1 ⟨rfl, hbb⟩
  have HC1 := hid (HC.out.keep hbb)
  have v3 := (HC1.out.blk.later (B := W1.heap.size) (heap_lt HC1.out.blk)).2.2.2.1
  have hk1 : (bits .and .i64 (ws.getD a 0) 15 == 15) = true := by rw [and15]; simpa using hk
  have hk2 : bits .and .i64 (ws.getD a 0) 15 = 15 := by rw [and15]; exact hk
  clear hbb HIo hold ha hk HC
  go_wp2_with fail
  refine wp_region_calm W1.heap.size (by kernel_rfl) (by kernel_rfl) ?_
  repeat (go_big_quiet_step (first | (rename_i x; go_at_call 52; refine (HNum.out _).mono ?_; rintro e w5 ⟨rfl, rfl⟩; exact ⟨rfl, x, rfl⟩)))
  refine wpQuiet_nil ?_
  rintro w5 ⟨y, rfl⟩
  have HC2 := hid (HC1.out.keep y.h)
  have HRd := hid (read_calls HC2.out (i := a) (by omega) hr0 (by omega))
  clear v3 HNum
  generalize y.w = W2 at *
  clear HC1
  go_wp2_with fail
  refine HRd.out.mono ?_
  rintro e W3 ⟨rfl, hC3⟩
  have HRe := hid (fun (X : World) (b : Below W3.heap.size W3 X) => read_calls (hC3.keep b) (i := a + 1) (by omega) (by omega) (by omega))
  rw [show ((a + 1 : Nat) : Int) = (a : Int) + 1 from rfl] at HRe
  clear hC3 HRd HC2
  generalize ws.getD a 0 = F at *
  go_wp2_with fail
  refine (HRe.out _ (by first | exact Below.refl _ _ | exact (Below.refl _ _).drew)).mono ?_
  rintro e W4 ⟨rfl, hC4⟩
  have HC4 := hid hC4
  clear hC4 HRe
  go_wp2_with fail
  exact bodyPost_ret (v := .tuple #[.int .i64 (ws.getD (a + 1) 0), .bool true]) (by simp [results, Try.results80, go_sem]) rfl ⟨rfl, by first | exact HC4.out | exact HC4.out.keep (Below.refl _ _).drew⟩

set_option maxRecDepth 100000 in
theorem move_full {w0 W : World} {bc bw N cap : Nat} {ws : List Int} {h : HpN} {r t : Int} (c : Col w0 bc bw N cap ws h r t W) (x : Int) (a n : Nat) (h0 : 0 ≤ h.to) (h1 : h.to ≤ h.size) (h3 : h.size ≤ 4000) (hold : lateZ h x = true)
    (ha : x / 8 = a) (hf : ws.getD a 0 / 16 = n) (hk : ws.getD a 0 % 16 ≠ 15) (hroom : ¬ (n : Int) ≤ h.top - h.bottom) (han : a < N) (hr0 : 0 ≤ r) (hr1 : r ≤ 70000) (hb0 : 0 ≤ h.bottom) (hb1 : h.bottom ≤ 8000) (ht0 : 0 ≤ h.top) (ht1 : h.top ≤ 8000) :
    Calls Try.prog 80 #[.pointer (some ⟨bc, 0, none⟩), .int .i64 x] W fun e w' => e = .returned (.tuple #[.int .i64 0, .bool false]) ∧ Col w0 bc bw N cap ws h (r + 1) t w' := by
  have HIo := hid (isOld_calls c x h0 h1 h3)
  rw [hold] at HIo
  have HNum := hid (fun w => implNum_calls x w)
  unfold numZ at HNum
  rw [ha] at HNum
  have HC := hid c
  clear c
  go_enter Try.func80, Try.ntmps80
  go_wp2_with fail
  refine HIo.out.mono ?_
  rintro e W1 ⟨rfl, hbb⟩
  have HC1 := hid (HC.out.keep hbb)
  have v3 := (HC1.out.blk.later (B := W1.heap.size) (heap_lt HC1.out.blk)).2.2.2.1
  have hk1 : (bits .and .i64 (ws.getD a 0) 15 == 15) = false := by rw [and15]; simpa using hk
  have HRoom := hid hroom
  clear hbb HIo hold ha hk HC hroom
  go_wp2_with fail
  refine wp_region_calm W1.heap.size (by kernel_rfl) (by kernel_rfl) ?_
  repeat (go_big_quiet_step (first | (rename_i x; go_at_call 52; refine (HNum.out _).mono ?_; rintro e w5 ⟨rfl, rfl⟩; exact ⟨rfl, x, rfl⟩)))
  refine wpQuiet_nil ?_
  rintro w5 ⟨y, rfl⟩
  have HC2 := hid (HC1.out.keep y.h)
  have HRd := hid (read_calls HC2.out (i := a) han hr0 (by omega))
  clear v3 HNum
  generalize y.w = W2 at *
  clear HC1
  go_wp2_with fail
  refine HRd.out.mono ?_
  rintro e W3 ⟨rfl, hC3⟩
  have HC3 := hid hC3
  have HHr := hid (hasRoom_calls HC3.out (n : Int) hb0 hb1 ht0 ht1)
  rw [decide_eq_false (show ¬ (n : Int) ≤ h.top - h.bottom by have := HRoom.out; omega)] at HHr
  clear hC3 HRd HC2
  generalize ws.getD a 0 = F at *
  go_wp2_with fail
  refine HHr.out.mono ?_
  rintro e W4 ⟨rfl, hb4⟩
  have HC4 := hid (HC3.out.keep hb4)
  clear hb4 HHr HC3
  go_wp2_with fail
  exact bodyPost_ret (v := .tuple #[.int .i64 0, .bool false]) (by simp [results, Try.results80, go_sem]) rfl ⟨rfl, by first | exact HC4.out | exact HC4.out.keep (Below.refl _ _).drew⟩

set_option maxRecDepth 100000 in
theorem field_stays {w0 W : World} {bc bw N cap : Nat} {ws : List Int} {h : HpN} {r t : Int} (c : Col w0 bc bw N cap ws h r t W) (q : Nat) (hq : q < N) (h0 : 0 ≤ h.to) (h1 : h.to ≤ h.size) (h3 : h.size ≤ 4000) (hr0 : 0 ≤ r) (hr1 : r ≤ 70000) (hold : lateZ h (ws.getD q 0) = false) :
    Calls Try.prog 53 #[.pointer (some ⟨bc, 0, none⟩), .int .i64 (q : Int)] W fun e w' => e = .returned (.tuple #[.int .i64 (ws.getD q 0), .bool true]) ∧ Col w0 bc bw N cap ws h (r + 1) t w' := by
  have HRd := hid (read_calls c (i := q) hq hr0 (by omega))
  clear c
  go_enter Try.func53, Try.ntmps53
  go_wp2_with fail
  refine HRd.out.mono ?_
  rintro e W1 ⟨rfl, hC1⟩
  have HIo := hid (fun (X : World) (b : Below W1.heap.size W1 X) => isOld_calls (hC1.keep b) (ws.getD q 0) h0 h1 h3)
  rw [hold] at HIo
  have HC1 := hid hC1
  clear hC1 HRd
  go_wp2_with fail
  refine (HIo.out _ (by first | exact Below.refl _ _ | exact (Below.refl _ _).drew)).mono ?_
  rintro e W2 ⟨rfl, hb2⟩
  have HC2 := hid (HC1.out.keep (by first | exact hb2 | exact (Below.refl _ _).drew.trans hb2))
  clear hb2 HIo HC1
  go_wp2_with fail
  exact bodyPost_ret (v := .tuple #[.int .i64 (ws.getD q 0), .bool true]) (by simp [results, Try.results53, go_sem]) rfl ⟨rfl, by first | exact HC2.out | exact HC2.out.keep (Below.refl _ _).drew⟩

set_option maxRecDepth 100000 in
theorem field_moves {w0 W : World} {bc bw N cap : Nat} {ws : List Int} {h : HpN} {r t : Int} (c : Col w0 bc bw N cap ws h r t W) (q : Nat) (hq : q < N) (h0 : 0 ≤ h.to) (h1 : h.to ≤ h.size) (h3 : h.size ≤ 4000) (hr0 : 0 ≤ r) (hr1 : r ≤ 70000) (hold : lateZ h (ws.getD q 0) = true)
    (y : Int) (ws' : List Int) (h' : HpN) (r' t' : Int) (ht0 : 0 ≤ t') (ht1 : t' ≤ 80000)
    (hm : ∀ X, Col w0 bc bw N cap ws h (r + 1) t X → Calls Try.prog 80 #[.pointer (some ⟨bc, 0, none⟩), .int .i64 (ws.getD q 0)] X fun e w' => e = .returned (.tuple #[.int .i64 y, .bool true]) ∧ Col w0 bc bw N cap ws' h' r' t' w') :
    Calls Try.prog 53 #[.pointer (some ⟨bc, 0, none⟩), .int .i64 (q : Int)] W fun e w' => e = .returned (.tuple #[.int .i64 y, .bool true]) ∧ Col w0 bc bw N cap (ws'.set q y) h' r' (t' + 1) w' := by
  have HRd := hid (read_calls c (i := q) hq hr0 (by omega))
  have HM := hid hm
  clear c hm
  go_enter Try.func53, Try.ntmps53
  go_wp2_with fail
  refine HRd.out.mono ?_
  rintro e W1 ⟨rfl, hC1⟩
  have HIo := hid (fun (X : World) (b : Below W1.heap.size W1 X) => isOld_calls (hC1.keep b) (ws.getD q 0) h0 h1 h3)
  rw [hold] at HIo
  have HC1 := hid hC1
  clear hC1 HRd
  go_wp2_with fail
  refine (HIo.out _ (by first | exact Below.refl _ _ | exact (Below.refl _ _).drew)).mono ?_
  rintro e W2 ⟨rfl, hb2⟩
  have HC2 := hid (HC1.out.keep (by first | exact hb2 | exact (Below.refl _ _).drew.trans hb2))
  clear hb2 HIo HC1
  go_wp2_with fail
  refine (HM.out _ (by first | exact HC2.out | exact HC2.out.keep (Below.refl _ _).drew)).mono ?_
  rintro e W3 ⟨rfl, hC3⟩
  have HW := hid (fun (X : World) (b : Below W3.heap.size W3 X) => write_calls (hC3.keep b) (i := q) hq y ht0 ht1)
  clear hC3 HM HC2
  go_wp2_with fail
  refine (HW.out _ (by first | exact Below.refl _ _ | exact (Below.refl _ _).drew)).mono ?_
  rintro e W4 ⟨rfl, hC4⟩
  have HC4 := hid hC4
  clear hC4 HW
  go_wp2_with fail
  exact bodyPost_ret (v := .tuple #[.int .i64 y, .bool true]) (by simp [results, Try.results53, go_sem]) rfl ⟨rfl, by first | exact HC4.out | exact HC4.out.keep (Below.refl _ _).drew⟩
end Go.Proofs.Ytebpgglegnljgaa

namespace Go.Proofs.Ytebpgglegnljgaa
open Go.RowKit

theorem set10T (a0 a1 a2 a3 a4 a5 a6 a7 a8 a9 x0 x1 x2 x3 x4 x5 x6 x7 x8 x9 : Value) : ((((((((((#[a0, a1, a2, a3, a4, a5, a6, a7, a8, a9].setIfInBounds 0 x0).setIfInBounds 1 x1).setIfInBounds 2 x2).setIfInBounds 3 x3).setIfInBounds 4 x4).setIfInBounds 5 x5).setIfInBounds 6 x6).setIfInBounds 7 x7).setIfInBounds 8 x8).setIfInBounds 9 x9) = #[x0, x1, x2, x3, x4, x5, x6, x7, x8, x9] := by
  simp

theorem heap_useT {W : World} {b : Nat} {v : Value} {h : HpN} (e : HeapBlk W b v h) (v' : Value) (h' : HpN) (Q : World → Prop)
    (k : ∀ W' : World, HeapBlk W' b v' h' → (∀ B, B ≤ b → Below B W W') → (∀ g, g ≠ b → W'.heap[g]? = W.heap[g]?) → Q W') : Q ((((((((((W.setCell ⟨b, 0, none⟩ v').setCell ⟨b, 1, none⟩ (.int .i64 h'.size)).setCell ⟨b, 2, none⟩ (.int .i64 h'.to)).setCell ⟨b, 3, none⟩ (.int .i64 h'.bottom)).setCell ⟨b, 4, none⟩ (.int .i64 h'.top)).setCell ⟨b, 5, none⟩ (.int .i64 h'.scan)).setCell ⟨b, 6, none⟩ (.int .i64 h'.fb)).setCell ⟨b, 7, none⟩ (.int .i64 h'.ft)).setCell ⟨b, 8, none⟩ (.int .i64 h'.flips)).setCell ⟨b, 9, none⟩ (.int .i64 h'.touched)) := by
  refine k _ ?_ (fun B hB => ?_) (fun g hg => ?_)
  · have e1 := set_block (set_block (set_block (set_block (set_block (set_block (set_block (set_block (set_block (set_block e 0 v') 1 (.int .i64 h'.size)) 2 (.int .i64 h'.to)) 3 (.int .i64 h'.bottom)) 4 (.int .i64 h'.top)) 5 (.int .i64 h'.scan)) 6 (.int .i64 h'.fb)) 7 (.int .i64 h'.ft)) 8 (.int .i64 h'.flips)) 9 (.int .i64 h'.touched)
    rw [set10T] at e1
    exact e1
  · exact ((((((((((Below.refl B W).setCell hB _).setCell hB _).setCell hB _).setCell hB _).setCell hB _).setCell hB _).setCell hB _).setCell hB _).setCell hB _).setCell hB _
  · have hh : ∀ (X : World) (i : Nat) (x : Value), (X.setCell ⟨b, i, none⟩ x).heap[g]? = X.heap[g]? := fun X i x => Below.heap_setCell X ⟨b, i, none⟩ x g hg
    simp only [hh]

set_option maxHeartbeats 1000000 in
set_option maxRecDepth 100000 in
theorem told_calls {w0 W : World} {bc bw N cap : Nat} {ws : List Int} {h : HpN} {r t : Int} (c : Col w0 bc bw N cap ws h r t W) :
    Calls Try.prog 45 #[.pointer (some ⟨bc, 0, none⟩)] W fun e w' => e = .returned (heapV (.slice (some ⟨bw, 0, none⟩) N cap) { h with touched := wrap64 (wrap64 (h.touched + r) + t) }) ∧ Below W.heap.size W w' := by
  obtain ⟨c0, c1, c2, c3, c4, c5, c6, c7, c8, c9, c10, c11⟩ := c.blk.cells
  have hbc := heap_lt c.blk
  clear c
  obtain ⟨g1, g2, g3, g4, g5, g6, g7, g8, g9⟩ := h
  dsimp only at c0 c1 c2 c3 c4 c5 c6 c7 c8 c9 c10 c11
  unfold heapV
  dsimp only
  go_enter Try.func45, Try.ntmps45
  go_wp2_with fail
  go_loopw [14] (fun i wr => ∃ T : Int, (i = .int .i64 0 ∧ T = g9 ∨ i = .int .i64 1 ∧ T = wrap64 (g9 + r) ∨ i = .int .i64 2 ∧ T = wrap64 (wrap64 (g9 + r) + t)) ∧ Hid (Below W.heap.size W wr) ∧ HeapBlk wr W.heap.size (.slice none 0 0) ⟨0, 0, 0, 0, 0, 0, 0, 0, 0⟩ ∧ HeapBlk wr (W.heap.size + 1) (.slice (some ⟨bw, 0, none⟩) N cap) ⟨g1, g2, g3, g4, g5, g6, g7, g8, T⟩) (fun i _ => 2 - (intOf i).toNat)
  case atStart =>
    obtain ⟨eA, eB, hbw⟩ := two_kept (Below.refl ((W.alloc (.cells #[.slice none 0 0, .int .i64 0, .int .i64 0, .int .i64 0, .int .i64 0, .int .i64 0, .int .i64 0, .int .i64 0, .int .i64 0, .int .i64 0] 25)).alloc (.cells #[.slice (some ⟨bw, 0, none⟩) N cap, .int .i64 g1, .int .i64 g2, .int .i64 g3, .int .i64 g4, .int .i64 g5, .int .i64 g6, .int .i64 g7, .int .i64 g8, .int .i64 g9] 25)).heap.size _)
    exact ⟨g9, Or.inl ⟨rfl, rfl⟩, hbw, eA, eB⟩
  case round =>
    obtain ⟨T, hT, HBw, hR, hH⟩ := hrel
    have HR := hid hR
    have HH := hid hH
    obtain ⟨d0, d1, d2, d3, d4, d5, d6, d7, d8, d9⟩ := hH.cells
    dsimp only at d0 d1 d2 d3 d4 d5 d6 d7 d8 d9
    have f9 := frozen_of_heap hH 9
    have HS : ∀ X : Int, Hid (HeapBlk (wr.setCell ⟨W.heap.size + 1, 9, none⟩ (.int .i64 X)) (W.heap.size + 1) (.slice (some ⟨bw, 0, none⟩) N cap) ⟨g1, g2, g3, g4, g5, g6, g7, g8, X⟩) := fun X => by
      have e := set_block hH 9 (.int .i64 X)
      have e2 : HeapBlk (wr.setCell ⟨W.heap.size + 1, 9, none⟩ (.int .i64 X)) (W.heap.size + 1) (.slice (some ⟨bw, 0, none⟩) N cap) ⟨g1, g2, g3, g4, g5, g6, g7, g8, X⟩ := by simpa [HeapBlk] using e
      exact e2
    have HS' : ∀ X : Int, Hid (HeapBlk (wr.setCell ⟨W.heap.size + 1, 9, none⟩ (.int .i64 X)) W.heap.size (.slice none 0 0) ⟨0, 0, 0, 0, 0, 0, 0, 0, 0⟩) := fun X => (Below.heap_setCell _ _ _ _ (by dsimp only; omega)).trans hR
    clear hR hH c0 c1 c2 c3 c4 c5 c6 c7 c8 c9 c10 c11
    rcases hT with ⟨rfl, rfl⟩ | ⟨rfl, rfl⟩ | ⟨rfl, rfl⟩
    · have E : Sem.run Try.prog (Instr.index 100 (.agg #[.int .i64 r, .int .i64 t]) (.int .i64 0)) wr = .ok (.int .i64 r) wr := by kernel_rfl
      go_wp2_with fail
      exact ⟨⟨wrap64 (T + r), Or.inr (Or.inl ⟨rfl, rfl⟩), HBw.out.setCell (p := ⟨W.heap.size + 1, 9, none⟩) (Nat.le_succ _) _, (HS' _).out, (HS _).out⟩, by decide⟩
    · generalize wrap64 (g9 + r) = T at *
      have E : Sem.run Try.prog (Instr.index 100 (.agg #[.int .i64 r, .int .i64 t]) (.int .i64 1)) wr = .ok (.int .i64 t) wr := by kernel_rfl
      go_wp2_with fail
      exact ⟨⟨wrap64 (T + t), Or.inr (Or.inr ⟨rfl, rfl⟩), HBw.out.setCell (p := ⟨W.heap.size + 1, 9, none⟩) (Nat.le_succ _) _, (HS' _).out, (HS _).out⟩, by decide⟩
    · generalize hT2 : wrap64 (wrap64 (g9 + r) + t) = T at *
      clear HS HS'
      obtain ⟨e0, e1, e2, e3, e4, e5, e6, e7, e8, e9⟩ := HR.out.cells
      dsimp only at e0 e1 e2 e3 e4 e5 e6 e7 e8 e9
      have z0 := frozen_of_heap HR.out 0
      have z1 := frozen_of_heap HR.out 1
      have z2 := frozen_of_heap HR.out 2
      have z3 := frozen_of_heap HR.out 3
      have z4 := frozen_of_heap HR.out 4
      have z5 := frozen_of_heap HR.out 5
      have z6 := frozen_of_heap HR.out 6
      have z7 := frozen_of_heap HR.out 7
      have z8 := frozen_of_heap HR.out 8
      have z9 := frozen_of_heap HR.out 9
      go_wp2_with fail
      refine heap_useT HR.out (.slice (some ⟨bw, 0, none⟩) N cap) ⟨g1, g2, g3, g4, g5, g6, g7, g8, T⟩ _ ?_
      intro W2 hL hb2 _
      obtain ⟨y0, y1, y2, y3, y4, y5, y6, y7, y8, y9⟩ := hL.cells
      dsimp only at y0 y1 y2 y3 y4 y5 y6 y7 y8 y9
      exact bodyPost_ret (v := .agg #[.slice (some ⟨bw, 0, none⟩) N cap, .int .i64 g1, .int .i64 g2, .int .i64 g3, .int .i64 g4, .int .i64 g5, .int .i64 g6, .int .i64 g7, .int .i64 g8, .int .i64 T]) (by simp [results, Try.results45, go_sem, y0, y1, y2, y3, y4, y5, y6, y7, y8, y9]) rfl ⟨by rw [hT2], HBw.out.trans (hb2 _ (Nat.le_refl _))⟩
end Go.Proofs.Ytebpgglegnljgaa

namespace Go.Proofs.Ytebpgglegnljgaa
open Go.RowKit

set_option maxRecDepth 100000 in
theorem field_fails {w0 W : World} {bc bw N cap : Nat} {ws : List Int} {h : HpN} {r t : Int} (c : Col w0 bc bw N cap ws h r t W) (q : Nat) (hq : q < N) (h0 : 0 ≤ h.to) (h1 : h.to ≤ h.size) (h3 : h.size ≤ 4000) (hr0 : 0 ≤ r) (hr1 : r ≤ 70000) (hold : lateZ h (ws.getD q 0) = true)
    (ws' : List Int) (h' : HpN) (r' t' : Int)
    (hm : ∀ X, Col w0 bc bw N cap ws h (r + 1) t X → Calls Try.prog 80 #[.pointer (some ⟨bc, 0, none⟩), .int .i64 (ws.getD q 0)] X fun e w' => e = .returned (.tuple #[.int .i64 0, .bool false]) ∧ Col w0 bc bw N cap ws' h' r' t' w') :
    Calls Try.prog 53 #[.pointer (some ⟨bc, 0, none⟩), .int .i64 (q : Int)] W fun e w' => e = .returned (.tuple #[.int .i64 0, .bool false]) ∧ Col w0 bc bw N cap ws' h' r' t' w' := by
  have HRd := hid (read_calls c (i := q) hq hr0 (by omega))
  have HM := hid hm
  clear c hm
  go_enter Try.func53, Try.ntmps53
  go_wp2_with fail
  refine HRd.out.mono ?_
  rintro e W1 ⟨rfl, hC1⟩
  have HIo := hid (fun (X : World) (b : Below W1.heap.size W1 X) => isOld_calls (hC1.keep b) (ws.getD q 0) h0 h1 h3)
  rw [hold] at HIo
  have HC1 := hid hC1
  clear hC1 HRd
  go_wp2_with fail
  refine (HIo.out _ (by first | exact Below.refl _ _ | exact (Below.refl _ _).drew)).mono ?_
  rintro e W2 ⟨rfl, hb2⟩
  have HC2 := hid (HC1.out.keep (by first | exact hb2 | exact (Below.refl _ _).drew.trans hb2))
  clear hb2 HIo HC1
  go_wp2_with fail
  refine (HM.out _ (by first | exact HC2.out | exact HC2.out.keep (Below.refl _ _).drew)).mono ?_
  rintro e W3 ⟨rfl, hC3⟩
  have HC4 := hid hC3
  clear hC3 HM HC2
  go_wp2_with fail
  exact bodyPost_ret (v := .tuple #[.int .i64 0, .bool false]) (by simp [results, Try.results53, go_sem]) rfl ⟨rfl, by first | exact HC4.out | exact HC4.out.keep (Below.refl _ _).drew⟩
end Go.Proofs.Ytebpgglegnljgaa

namespace Go.Proofs.Ytebpgglegnljgaa
open Go.RowKit

structure CN where
  ws : List Int
  h : HpN
  r : Int
  t : Int

def moveZ (s : CN) (x : Int) : Option Int × CN :=
  if lateZ s.h x = false then (some x, s) else
  if s.ws.getD (x / 8).toNat 0 % 16 = 15 then (some (s.ws.getD ((x / 8).toNat + 1) 0), { s with r := s.r + 1 + 1 }) else
  if s.ws.getD (x / 8).toNat 0 / 16 ≤ s.h.top - s.h.bottom then
    (some (8 * s.h.bottom), ⟨((copyW s.ws (x / 8).toNat s.h.bottom.toNat (s.ws.getD (x / 8).toNat 0 / 16).toNat).set (x / 8).toNat (s.ws.getD (x / 8).toNat 0 / 16 * 16 + 15)).set ((x / 8).toNat + 1) (8 * s.h.bottom), { s.h with bottom := s.h.bottom + s.ws.getD (x / 8).toNat 0 / 16 }, s.r + s.ws.getD (x / 8).toNat 0 / 16, s.t + s.ws.getD (x / 8).toNat 0 / 16 + 2⟩)
  else (none, { s with r := s.r + 1 })

def moveV : Option Int → Value
  | some y => .tuple #[.int .i64 y, .bool true]
  | none => .tuple #[.int .i64 0, .bool false]

def MoveOk (ws : List Int) (h : HpN) (N : Nat) (x : Int) : Prop :=
  lateZ h x = true → (x / 8).toNat + 1 < N ∧ (ws.getD (x / 8).toNat 0 % 16 ≠ 15 → (ws.getD (x / 8).toNat 0 / 16 = 3 ∨ ws.getD (x / 8).toNat 0 / 16 = 6) ∧ (x / 8).toNat + (ws.getD (x / 8).toNat 0 / 16).toNat ≤ N)

theorem move_calls {w0 W : World} {bc bw N cap : Nat} (s : CN) (c : Col w0 bc bw N cap s.ws s.h s.r s.t W) (x : Int) (h0 : 0 ≤ s.h.to) (h1 : s.h.to ≤ s.h.size) (h3 : s.h.size ≤ 4000) (hb0 : 0 ≤ s.h.bottom) (hbt : s.h.bottom ≤ s.h.top) (htN : s.h.top ≤ N) (hN : N ≤ 8000)
    (hr0 : 0 ≤ s.r) (hr1 : s.r ≤ 70000) (ht0 : 0 ≤ s.t) (ht1 : s.t ≤ 70000) (hm : MoveOk s.ws s.h N x) :
    Calls Try.prog 80 #[.pointer (some ⟨bc, 0, none⟩), .int .i64 x] W fun e w' => e = .returned (moveV (moveZ s x).1) ∧ Col w0 bc bw N cap (moveZ s x).2.ws (moveZ s x).2.h (moveZ s x).2.r (moveZ s x).2.t w' := by
  obtain ⟨ws, h, r, t⟩ := s
  dsimp only at *
  unfold moveZ
  dsimp only
  cases ho : lateZ h x with
  | false =>
    rw [if_pos rfl]
    exact move_stays c x h0 h1 h3 ho
  | true =>
    rw [if_neg (by decide)]
    obtain ⟨ha1, ha2⟩ := hm ho
    have hx0 : 0 ≤ x / 8 := by
      unfold lateZ at ho
      rw [Bool.and_eq_true, decide_eq_true_eq, decide_eq_true_eq] at ho
      omega
    obtain ⟨a, ha⟩ := Int.eq_ofNat_of_zero_le hx0
    rw [ha, Int.toNat_natCast] at ha1 ha2 ⊢
    by_cases hk : ws.getD a 0 % 16 = 15
    · rw [if_pos hk]
      exact move_moved c x a h0 h1 h3 ho ha hk ha1 hN hr0 hr1
    · rw [if_neg hk]
      obtain ⟨hs, han⟩ := ha2 hk
      obtain ⟨n, hn⟩ := Int.eq_ofNat_of_zero_le (show 0 ≤ ws.getD a 0 / 16 by omega)
      obtain ⟨to, hto⟩ := Int.eq_ofNat_of_zero_le hb0
      rw [hn, Int.toNat_natCast] at han
      by_cases hroom : ws.getD a 0 / 16 ≤ h.top - h.bottom
      · rw [if_pos hroom]
        have := move_copies c x a to n h0 h1 h3 ho ha hto hN (by omega) hn hk (by omega) htN han hr0 hr1 ht0 ht1
        dsimp only
        rw [hn, hto, Int.toNat_natCast, Int.toNat_natCast]
        exact this
      · rw [if_neg hroom]
        exact move_full c x a n h0 h1 h3 ho ha hn hk (by omega) (by omega) hr0 hr1 hb0 (by omega) (by omega) (by omega)
end Go.Proofs.Ytebpgglegnljgaa

namespace Go.Proofs.Ytebpgglegnljgaa
open Go.RowKit

def fieldZ (s : CN) (q : Nat) : Option Int × CN :=
  if lateZ s.h (s.ws.getD q 0) = false then (some (s.ws.getD q 0), { s with r := s.r + 1 }) else
  match moveZ { s with r := s.r + 1 } (s.ws.getD q 0) with
  | (some y, s2) => (some y, ⟨s2.ws.set q y, s2.h, s2.r, s2.t + 1⟩)
  | (none, s2) => (none, s2)

theorem moveZ_t {s : CN} {N : Nat} {x : Int} (hm : MoveOk s.ws s.h N x) : s.t ≤ (moveZ s x).2.t ∧ (moveZ s x).2.t ≤ s.t + 8 := by
  unfold moveZ
  cases ho : lateZ s.h x with
  | false =>
    rw [if_pos rfl]
    dsimp only
    omega
  | true =>
    rw [if_neg (by decide)]
    have h2 := (hm ho).2
    split
    · dsimp only
      omega
    · rename_i hk
      have h3 := (h2 hk).1
      split
      · dsimp only
        omega
      · dsimp only
        omega

theorem field_calls {w0 W : World} {bc bw N cap : Nat} (s : CN) (c : Col w0 bc bw N cap s.ws s.h s.r s.t W) (q : Nat) (hq : q < N) (h0 : 0 ≤ s.h.to) (h1 : s.h.to ≤ s.h.size) (h3 : s.h.size ≤ 4000) (hb0 : 0 ≤ s.h.bottom) (hbt : s.h.bottom ≤ s.h.top) (htN : s.h.top ≤ N) (hN : N ≤ 8000)
    (hr0 : 0 ≤ s.r) (hr1 : s.r ≤ 60000) (ht0 : 0 ≤ s.t) (ht1 : s.t ≤ 60000) (hm : MoveOk s.ws s.h N (s.ws.getD q 0)) :
    Calls Try.prog 53 #[.pointer (some ⟨bc, 0, none⟩), .int .i64 (q : Int)] W fun e w' => e = .returned (moveV (fieldZ s q).1) ∧ Col w0 bc bw N cap (fieldZ s q).2.ws (fieldZ s q).2.h (fieldZ s q).2.r (fieldZ s q).2.t w' := by
  cases ho : lateZ s.h (s.ws.getD q 0) with
  | false =>
    have e : fieldZ s q = (some (s.ws.getD q 0), { s with r := s.r + 1 }) := by unfold fieldZ; rw [if_pos ho]
    rw [e]
    exact field_stays c q hq h0 h1 h3 hr0 (by omega) ho
  | true =>
    have hc := fun (X : World) (hX : Col w0 bc bw N cap s.ws s.h (s.r + 1) s.t X) => move_calls { s with r := s.r + 1 } hX (s.ws.getD q 0) h0 h1 h3 hb0 hbt htN hN (show 0 ≤ s.r + 1 by omega) (show s.r + 1 ≤ 70000 by omega) ht0 (show s.t ≤ 70000 by omega) hm
    have hb := moveZ_t (s := { s with r := s.r + 1 }) hm
    have e : fieldZ s q = match moveZ { s with r := s.r + 1 } (s.ws.getD q 0) with
        | (some y, s2) => (some y, ⟨s2.ws.set q y, s2.h, s2.r, s2.t + 1⟩)
        | (none, s2) => (none, s2) := by unfold fieldZ; rw [if_neg (by rw [ho]; decide)]
    rw [e]
    generalize moveZ { s with r := s.r + 1 } (s.ws.getD q 0) = m at *
    obtain ⟨o, s2⟩ := m
    dsimp only at hb hc
    cases o with
    | some y => exact field_moves c q hq h0 h1 h3 hr0 (by omega) ho y s2.ws s2.h s2.r s2.t (by omega) (by omega) hc
    | none => exact field_fails c q hq h0 h1 h3 hr0 (by omega) ho s2.ws s2.h s2.r s2.t hc
end Go.Proofs.Ytebpgglegnljgaa

namespace Go.Proofs.Ytebpgglegnljgaa
open Go.RowKit

set_option maxRecDepth 100000 in
theorem specSize_calls (x : Int) (w : World) :
    Calls Try.prog 65 #[.int .i64 x] w fun e w' => e = .returned (.int .i64 (sizeZ x)) ∧ w = w' := by
  have hf := fields_three (x % 16)
  have hb := and15 x
  have hZ : sizeZ x = if x % 16 = 15 then (if x / 16 = 3 ∨ x / 16 = 6 then x / 16 else 0) else if fieldsZ (x % 16) = 0 ∨ x / 16 ≠ 1 + fieldsZ (x % 16) then 0 else x / 16 := rfl
  have HZ := hid hZ
  clear hZ
  generalize sizeZ x = r at *
  generalize x % 16 = k at *
  have hf1 : fieldsZ k ≤ 5 := by omega
  have hf0 : 0 ≤ fieldsZ k := by omega
  clear hf
  go_enter Try.func65, Try.ntmps65
  go_wp2_with (first | (go_at_call 29; refine (specFields_calls _ _).mono ?_; rintro e w2 ⟨rfl, rfl⟩))
  all_goals
    go_ret
    refine ⟨?_, rfl⟩
    have hZ := HZ.out
    clear HZ
    simp_all
    try omega

set_option maxRecDepth 100000 in
theorem specFrom_calls (v : Value) (h : HpN) (w : World) (h0 : 0 ≤ h.to) (h1 : h.to ≤ 4000) (h2 : 0 ≤ h.size) (h3 : h.size ≤ 4000) :
    Calls Try.prog 63 #[heapV v h] w fun e w' => e = .returned (.int .i64 (h.size - h.to)) ∧ Below w.heap.size w w' := by
  obtain ⟨g1, g2, g3, g4, g5, g6, g7, g8, g9⟩ := h
  dsimp only at *
  unfold heapV
  dsimp only
  go_enter Try.func63, Try.ntmps63
  go_wp2
  go_ret
  exact ⟨rfl, (Below.refl _ _).alloc (Nat.le_refl _) _⟩

set_option maxHeartbeats 1000000 in
set_option maxRecDepth 100000 in
theorem specLeads_calls (b off cap gb gcap : Nat) (ws S : List Int) (h : HpN) (x : Int) (old : Bool) (w : World) (ho : Ordered h ws.length) (hlen : S.length = ws.length)
    (hb : b < w.heap.size) (hw : ∀ k, k < ws.length → w.cell? ⟨b, off + k, none⟩ = some (.int .i64 (ws.getD k 0)))
    (hgb : gb < w.heap.size) (hs : ∀ k, k < S.length → w.cell? ⟨gb, k, none⟩ = some (boolCells S k)) :
    Calls Try.prog 66 #[heapV (.slice (some ⟨b, off, none⟩) ws.length cap) h, .int .i64 x, .slice (some ⟨gb, 0, none⟩) S.length gcap, .bool old] w
      fun e w' => e = .returned (.bool (specLeads ws S h x old)) ∧ Below w.heap.size w w' := by
  have HW := hid hw
  have HS := hid hs
  have HO := hid ho
  obtain ⟨h1, h2, h3, h4, _⟩ := ho
  have hto0 : 0 ≤ h.to := by omega
  have hto1 : h.to ≤ 4000 := by omega
  have hs0 : 0 ≤ h.size := by omega
  rw [hlen]
  clear hw hs h3 h4 h1
  obtain ⟨g1, g2, g3, g4, g5, g6, g7, g8, g9⟩ := h
  dsimp only at *
  unfold heapV
  dsimp only
  by_cases ht : x % 8 = 0
  · have e1 : tagZ x = 0 := ht
    by_cases hneg : x / 8 < 0
    · have hA : specLeads ws S ⟨g1, g2, g3, g4, g5, g6, g7, g8, g9⟩ x old = false := by
        unfold specLeads
        rw [if_neg (by simpa using ht), if_pos (Or.inl hneg)]
      rw [hA]
      have hneg' : numZ x < 0 := hneg
      clear hA ht hneg
      go_enter Try.func66, Try.ntmps66
      go_wp2_with (first | (go_at_call 37; refine (specTag_calls _ _).mono ?_; rintro e w2 ⟨rfl, rfl⟩) | (go_at_call 54; refine (specNum_calls _ _).mono ?_; rintro e w2 ⟨rfl, rfl⟩))
      go_ret
      exact ⟨rfl, (Below.refl _ _).alloc (Nat.le_refl _) _⟩
    · obtain ⟨k, hk⟩ := Int.eq_ofNat_of_zero_le (show 0 ≤ x / 8 by omega)
      by_cases hbig : (ws.length : Int) ≤ k
      · have hA : specLeads ws S ⟨g1, g2, g3, g4, g5, g6, g7, g8, g9⟩ x old = false := by
          unfold specLeads
          rw [if_neg (by simpa using ht), if_pos (Or.inr (Or.inl (by omega)))]
        rw [hA]
        have e2 : numZ x = (k : Int) := hk
        clear hA ht hneg hk
        go_enter Try.func66, Try.ntmps66
        go_wp2_with (first | (go_at_call 37; refine (specTag_calls _ _).mono ?_; rintro e w2 ⟨rfl, rfl⟩) | (go_at_call 54; refine (specNum_calls _ _).mono ?_; rintro e w2 ⟨rfl, rfl⟩))
        go_ret
        exact ⟨rfl, (Below.refl _ _).alloc (Nat.le_refl _) _⟩
      · have c0 := HW.out k (by omega)
        have c1 := HS.out k (by omega)
        have e2 : numZ x = (k : Int) := hk
        have hin : inZ ⟨g1, g2, g3, g4, g5, g6, g7, g8, g9⟩ (x / 8) = decide (g2 ≤ (k : Int) ∧ (k : Int) < g2 + g1) := by rw [hk]; rfl
        have hA : specLeads ws S ⟨g1, g2, g3, g4, g5, g6, g7, g8, g9⟩ x old = if S.getD k 0 = 0 then false else (decide (g2 ≤ (k : Int) ∧ (k : Int) < g2 + g1) && decide (ws.getD k 0 % 16 ≠ 15)) || (!decide (g2 ≤ (k : Int) ∧ (k : Int) < g2 + g1) && old) := by
          unfold specLeads
          rw [if_neg (by simpa using ht), hin, hk]
          by_cases h0 : S.getD k 0 = 0
          · rw [if_pos h0, if_pos (Or.inr (Or.inr (by rw [Int.toNat_natCast]; exact h0)))]
          · rw [if_neg h0, if_neg (by rw [Int.toNat_natCast]; omega), Int.toNat_natCast]
        rw [hA]
        unfold boolCells at c1
        have hb15 := and15 (ws.getD k 0)
        clear hA ht hneg hk hin HW HS HO
        generalize ws.getD k 0 = y at *
        generalize S.getD k 0 = s at *
        cases hs : (s != 0)
        · rw [hs] at c1
          have h0 : s = 0 := by simpa using hs
          rw [if_pos h0]
          go_enter Try.func66, Try.ntmps66
          go_wp2_with (first | (go_at_call 37; refine (specTag_calls _ _).mono ?_; rintro e w2 ⟨rfl, rfl⟩) | (go_at_call 54; refine (specNum_calls _ _).mono ?_; rintro e w2 ⟨rfl, rfl⟩; rw [e2]))
          go_ret
          exact ⟨rfl, (Below.refl _ _).alloc (Nat.le_refl _) _⟩
        · rw [hs] at c1
          have h0 : s ≠ 0 := by simpa using hs
          rw [if_neg h0]
          go_enter Try.func66, Try.ntmps66
          go_wp2_with (first | (go_at_call 37; refine (specTag_calls _ _).mono ?_; rintro e w2 ⟨rfl, rfl⟩) | (go_at_call 54; refine (specNum_calls _ _).mono ?_; rintro e w2 ⟨rfl, rfl⟩; rw [e2]))
          all_goals
            go_ret
            refine ⟨?_, (Below.refl _ _).alloc (Nat.le_refl _) _⟩
            simp_all
            try first | (have h' : ¬ ((k : Int) < g2 + g1) := by omega
                         simp [h']) | (have h' : ¬ (g2 ≤ (k : Int)) := by omega
                                       simp [h'])
  · have hA : specLeads ws S ⟨g1, g2, g3, g4, g5, g6, g7, g8, g9⟩ x old = decide (x % 8 ≤ 4) := by
      unfold specLeads
      rw [if_pos ht]
    rw [hA]
    have e1 : tagZ x = x % 8 := rfl
    clear hA
    go_enter Try.func66, Try.ntmps66
    go_wp2_with (first | (go_at_call 37; refine (specTag_calls _ _).mono ?_; rintro e w2 ⟨rfl, rfl⟩; rw [e1]))
    go_ret
    exact ⟨rfl, (Below.refl _ _).alloc (Nat.le_refl _) _⟩
end Go.Proofs.Ytebpgglegnljgaa

namespace Go.Proofs.Ytebpgglegnljgaa
open Go.RowKit

def RowPost (R : Option (List Int)) (gb N : Nat) (w : World) (e : Ending) (w' : World) : Prop :=
  (∃ ok, e = .returned (.bool ok) ∧ (R = none ∧ ok = false ∨ ∃ S', R = some S' ∧ ok = true ∧ S'.length = N ∧ CellRow 4 w' gb N (boolCells S'))) ∧ w.grownBy w' (some gb)

theorem bool_set (S : List Int) (p : Nat) (hp : p < S.length) (n : Nat) (hn : n ≠ 0) {f : Nat → Value} {N : Nat} (hf : ∀ i, i < N → f i = boolCells S i) :
    ∀ i, i < N → (fun j => if j = p then Value.bool true else f j) i = boolCells (S.set p (n : Int)) i := by
  intro i hi
  show (if i = p then Value.bool true else f i) = _
  unfold boolCells
  rw [getD_set]
  by_cases h : i = p
  · rw [if_pos h, if_pos ⟨h, hp⟩]
    have : ((n : Int) != 0) = true := by simpa using hn
    rw [this]
  · rw [if_neg h, if_neg (fun e => h e.1)]
    exact hf i hi

set_option maxHeartbeats 1000000 in
set_option maxRecDepth 100000 in
theorem specRow_calls (b off cap gb gcap N p0 to : Nat) (ws S : List Int) (h : HpN) (w : World) (hS : S.length = N) (hN2 : N ≤ 8000) (hto : to ≤ N)
    (hb : b < w.heap.size) (hw : ∀ k, k < N → w.cell? ⟨b, off + k, none⟩ = some (.int .i64 (ws.getD k 0))) (hne : b ≠ gb) (hr : CellRow 4 w gb N (boolCells S)) :
    Calls Try.prog 89 #[heapV (.slice (some ⟨b, off, none⟩) N cap) h, .int .i64 p0, .int .i64 to, .slice (some ⟨gb, 0, none⟩) N gcap] w (RowPost (lay ws p0 to S) gb N w) := by
  have HW := hid hw
  have hgb := hr.lt
  have HR := hid hr
  clear hw hr
  obtain ⟨g1, g2, g3, g4, g5, g6, g7, g8, g9⟩ := h
  unfold heapV
  dsimp only
  generalize hR : lay ws p0 to S = R
  have HL := hid hR
  clear hR
  go_enter Try.func89, Try.ntmps89
  go_wp2_with fail
  have hblk := HeapBlk.new w (.slice (some ⟨b, off, none⟩) N cap) ⟨g1, g2, g3, g4, g5, g6, g7, g8, g9⟩
  have hk0 := (Below.refl w.heap.size w).alloc (Nat.le_refl _) (.cells #[.slice (some ⟨b, off, none⟩) N cap, .int .i64 g1, .int .i64 g2, .int .i64 g3, .int .i64 g4, .int .i64 g5, .int .i64 g6, .int .i64 g7, .int .i64 g8, .int .i64 g9] 25)
  go_loopw [1] (fun i wr => ∃ (p : Nat) (S' : List Int), i = .int .i64 p ∧ Hid (lay ws p to S' = R ∧ S'.length = N ∧ CellRow 4 wr gb N (boolCells S') ∧ w.grownBy wr (some gb)) ∧ HeapBlk wr w.heap.size (.slice (some ⟨b, off, none⟩) N cap) ⟨g1, g2, g3, g4, g5, g6, g7, g8, g9⟩) (fun i _ => to - (intOf i).toNat)
  case atStart => exact ⟨p0, S, rfl, ⟨HL.out, hS, HR.out.of_block (hk0.block gb hgb), kept_of_below hk0 _⟩, hblk⟩
  case round =>
    obtain ⟨p, S', rfl, HI, hB⟩ := hrel
    clear hblk hk0 HR HL
    have HB := hid hB
    obtain ⟨c0, -⟩ := hB.cells
    clear hB
    by_cases hlt : (p : Int) < (to : Int)
    · obtain ⟨N', f, hrow, hN', hf⟩ := HI.out.2.2.1
      have HF := hid hf
      have q0 := hrow.cell (i := p) (by omega)
      have z0 := hrow.frozen p (by omega)
      have cw : wr.cell? ⟨b, off + p, none⟩ = some (.int .i64 (ws.getD p 0)) := (World.cell?_of_block (w := w) (HI.out.2.2.2.block b hb (by simpa using hne))).trans (HW.out p (by omega))
      have HRow := hid hrow
      clear hf hrow
      have hs3 := sizeN_le (ws.getD p 0)
      have es := sizeN_cast (ws.getD p 0)
      by_cases hn : sizeN (ws.getD p 0) = 0 ∨ to < p + sizeN (ws.getD p 0)
      · have HE := hid ((lay_bad ws S' (by omega) hn).symm.trans HI.out.1)
        have hn' : sizeZ (ws.getD p 0) = 0 ∨ (to : Int) < (p : Int) + sizeZ (ws.getD p 0) := by omega
        have hz6 : sizeZ (ws.getD p 0) ≤ 6 := by omega
        have hz0 : 0 ≤ sizeZ (ws.getD p 0) := by omega
        clear hn es hs3
        generalize ws.getD p 0 = x at *
        go_wp2_with (first | (go_at_call 65; refine (specSize_calls _ _).mono ?_; rintro e w2 ⟨rfl, rfl⟩))
        all_goals
          go_ret
          exact ⟨⟨false, rfl, Or.inl ⟨HE.out.symm, rfl⟩⟩, HI.out.2.2.2⟩
      · have HE := hid ((lay_next ws S' (by omega) hn).symm.trans HI.out.1)
        generalize ws.getD p 0 = x at *
        generalize sizeN x = n at *
        have hn0 : (0 : Int) < (n : Int) := by omega
        have hn1 : (p : Int) + (n : Int) ≤ (to : Int) := by omega
        have hn2 : Hid (n ≠ 0 ∧ p < S'.length) := ⟨by omega, by have := HI.out.2.1; omega⟩
        have ES := hid es.symm
        have hz : ((n : Int) == 0) = false := by simp; omega
        clear hn hs3 es
        go_wp2_with (first | (go_at_call 65; refine (specSize_calls _ _).mono ?_; rintro e w2 ⟨rfl, rfl⟩; rw [ES.out]))
        have hs : to - (intOf (.int .i64 ((p + n : Nat) : Int))).toNat < to - (intOf (.int .i64 (p : Int))).toNat := by simp only [intOf, Int.toNat_natCast]; omega
        refine ⟨⟨p + n, S'.set p (n : Int), ?_, ⟨HE.out, ?_, ?_, ?_⟩, ?_⟩, ?_⟩
        · push_cast
          rfl
        · rw [List.length_set]
          exact HI.out.2.1
        · exact ⟨N', _, HRow.out.set p _, hN', bool_set S' p hn2.out.2 n hn2.out.1 HF.out⟩
        · exact kept_set HI.out.2.2.2 _ _
        · exact (Below.heap_setCell _ _ _ _ (by dsimp only; omega)).trans HB.out
        · rw [show ((p : Int) + (n : Int)) = ((p + n : Nat) : Int) by push_cast; rfl]
          exact hs
    · have HE := hid ((lay_end ws S' (by omega)).symm.trans HI.out.1)
      go_wp2_with fail
      go_ret
      exact ⟨⟨true, rfl, Or.inr ⟨S', HE.out.symm, rfl, HI.out.2.1, HI.out.2.2.1⟩⟩, HI.out.2.2.2⟩

theorem info_bool : (Try.prog.info? 4).map (fun i => (i.zero, i.size, i.bytes)) = some (some (.bool false), 1, 1) := by kernel_rfl

theorem specRow_at (b off cap gb gcap N : Nat) (P T : Int) (ws S : List Int) (h : HpN) (w : World) (hS : S.length = N) (hN2 : N ≤ 8000) (hP : 0 ≤ P) (hT0 : 0 ≤ T) (hT : T ≤ N)
    (hb : b < w.heap.size) (hw : ∀ k, k < N → w.cell? ⟨b, off + k, none⟩ = some (.int .i64 (ws.getD k 0))) (hne : b ≠ gb) (hr : CellRow 4 w gb N (boolCells S)) :
    Calls Try.prog 89 #[heapV (.slice (some ⟨b, off, none⟩) N cap) h, .int .i64 P, .int .i64 T, .slice (some ⟨gb, 0, none⟩) N gcap] w (RowPost (lay ws P.toNat T.toNat S) gb N w) := by
  obtain ⟨p, rfl⟩ := Int.eq_ofNat_of_zero_le hP
  obtain ⟨t, rfl⟩ := Int.eq_ofNat_of_zero_le hT0
  exact specRow_calls b off cap gb gcap N p t ws S h w hS hN2 (by omega) hb hw hne hr

def specLay (ws : List Int) (h : HpN) : Option (List Int) :=
  match lay ws h.to.toNat h.bottom.toNat (List.replicate ws.length 0) with
  | none => none
  | some S1 => match lay ws h.top.toNat (h.to + h.size).toNat S1 with
    | none => none
    | some S2 => if h.scan < h.bottom then
        match lay ws (h.size - h.to).toNat h.fb.toNat S2 with
        | none => none
        | some S3 => lay ws h.ft.toNat (h.size - h.to + h.size).toNat S3
      else some S2

def BeginsPost (R : Option (List Int)) (N : Nat) (w : World) (e : Ending) (w' : World) : Prop :=
  (∃ gb gcap ok, e = .returned (.tuple #[.slice (some ⟨gb, 0, none⟩) N gcap, .bool ok]) ∧ w.heap.size ≤ gb ∧ gb < w'.heap.size ∧ (R = none ∧ ok = false ∨ ∃ S', R = some S' ∧ ok = true ∧ S'.length = N ∧ CellRow 4 w' gb N (boolCells S'))) ∧ Below w.heap.size w w'
end Go.Proofs.Ytebpgglegnljgaa

namespace Go.Proofs.Ytebpgglegnljgaa
open Go.RowKit

structure BSt (w : World) (b off bH gb N : Nat) (ws : List Int) (v : Value) (h : HpN) (S : List Int) (W : World) : Prop where
  blt : b < W.heap.size
  words : ∀ k, k < N → W.cell? ⟨b, off + k, none⟩ = some (.int .i64 (ws.getD k 0))
  blk : HeapBlk W bH v h
  len : S.length = N
  row : CellRow 4 W gb N (boolCells S)
  ne : b ≠ gb
  ne2 : bH ≠ gb
  low : w.heap.size ≤ gb
  below : Below w.heap.size w W

theorem BSt.step {w W W' : World} {b off bH gb N : Nat} {ws : List Int} {v : Value} {h : HpN} {S S' : List Int} (s : BSt w b off bH gb N ws v h S W) (hg : W.grownBy W' (some gb)) (hl : S'.length = N) (hr : CellRow 4 W' gb N (boolCells S')) :
    BSt w b off bH gb N ws v h S' W' where
  blt := Nat.lt_of_lt_of_le s.blt hg.size
  words := fun k hk => (World.cell?_of_block (w := W) (hg.block b s.blt (by simpa using s.ne))).trans (s.words k hk)
  blk := (hg.block bH (heap_lt s.blk) (by simpa using s.ne2)).trans s.blk
  len := hl
  row := hr
  ne := s.ne
  ne2 := s.ne2
  low := s.low
  below := s.below.grown hg s.below.size (fun k hk => by cases hk; exact s.low)

theorem BSt.keep {w W W' : World} {b off bH gb N : Nat} {ws : List Int} {v : Value} {h : HpN} {S : List Int} (s : BSt w b off bH gb N ws v h S W) (hb : Below W.heap.size W W') : BSt w b off bH gb N ws v h S W' where
  blt := Nat.lt_of_lt_of_le s.blt hb.size
  words := fun k hk => (hb.cell (p := ⟨b, off + k, none⟩) s.blt).trans (s.words k hk)
  blk := s.blk.below hb
  len := s.len
  row := s.row.of_block (hb.block gb s.row.lt)
  ne := s.ne
  ne2 := s.ne2
  low := s.low
  below := s.below.trans (hb.mono s.below.size)

theorem bools_made (w : World) (N : Nat) : CellRow 4 (w.alloc (.cells (madeCells #[.bool false] N) 4)) w.heap.size N (boolCells (List.replicate N 0)) := by
  refine ⟨N, _, rw_of_row (World.rowIs_made w (.bool false) N 4) N, Nat.le_refl _, fun i hi => ?_⟩
  simp [boolCells, List.getD, hi]

theorem begins_bad {R : Option (List Int)} {w W W' : World} {b off bH gb N gcap : Nat} {ws : List Int} {v : Value} {h : HpN} {S : List Int} (s : BSt w b off bH gb N ws v h S W) (hg : W.grownBy W' (some gb)) (hR : R = none) :
    BeginsPost R N w (.returned (.tuple #[.slice (some ⟨gb, 0, none⟩) N gcap, .bool false])) W' :=
  ⟨⟨gb, gcap, false, rfl, s.low, Nat.lt_of_lt_of_le s.row.lt hg.size, Or.inl ⟨hR, rfl⟩⟩, s.below.grown hg s.below.size (fun k hk => by cases hk; exact s.low)⟩

theorem begins_ok {R : Option (List Int)} {w W : World} {b off bH gb N gcap : Nat} {ws : List Int} {v : Value} {h : HpN} {S : List Int} (s : BSt w b off bH gb N ws v h S W) (hR : R = some S) :
    BeginsPost R N w (.returned (.tuple #[.slice (some ⟨gb, 0, none⟩) N gcap, .bool true])) W :=
  ⟨⟨gb, gcap, true, rfl, s.low, s.row.lt, Or.inr ⟨S, hR, rfl, s.len, s.row⟩⟩, s.below⟩

set_option maxHeartbeats 2000000 in
set_option maxRecDepth 100000 in
theorem specBegins_calls (b off cap N : Nat) (ws : List Int) (h : HpN) (w : World) (hN : ws.length = N) (ho : Ordered h N)
    (hb : b < w.heap.size) (hw : ∀ k, k < N → w.cell? ⟨b, off + k, none⟩ = some (.int .i64 (ws.getD k 0))) :
    Calls Try.prog 64 #[heapV (.slice (some ⟨b, off, none⟩) N cap) h] w (BeginsPost (specLay ws h) N w) := by
  have HO := hid ho
  have HW := hid hw
  have hR : specLay ws h = match lay ws h.to.toNat h.bottom.toNat (List.replicate N 0) with
    | none => none
    | some S1 => match lay ws h.top.toNat (h.to + h.size).toNat S1 with
      | none => none
      | some S2 => if h.scan < h.bottom then
          match lay ws (h.size - h.to).toNat h.fb.toNat S2 with
          | none => none
          | some S3 => lay ws h.ft.toNat (h.size - h.to + h.size).toNat S3
        else some S2 := by subst hN; rfl
  have HR := hid hR
  generalize specLay ws h = R at *
  obtain ⟨o1, o2, o3, o4, o5, o6, o7, o8, o9, o10, o11, o12, o13⟩ := ho
  have hto0 : 0 ≤ h.to := by omega
  have hto1 : h.to ≤ 4000 := by omega
  have hN8 : N ≤ 8000 := by omega
  clear hw hR hN o3 o4 o5 o6 o7 o8 o9 o10 o11 o12 o13
  have hmk := run_make_row' (P := Try.prog) 95 4 (.bool false) 1 Try.underlying95 info_bool rfl .i64 .i64 N (by omega) (by omega)
  have HF := hid (specFrom_calls (.slice (some ⟨b, off, none⟩) N cap) h)
  obtain ⟨g1, g2, g3, g4, g5, g6, g7, g8, g9⟩ := h
  unfold heapV
  dsimp only at *
  go_enter Try.func64, Try.ntmps64
  go_wp2_with fail
  have hB0 : BSt w b off w.heap.size (w.heap.size + 1) N ws (.slice (some ⟨b, off, none⟩) N cap) ⟨g1, g2, g3, g4, g5, g6, g7, g8, g9⟩ (List.replicate N 0) ((w.alloc (.cells #[.slice (some ⟨b, off, none⟩) N cap, .int .i64 g1, .int .i64 g2, .int .i64 g3, .int .i64 g4, .int .i64 g5, .int .i64 g6, .int .i64 g7, .int .i64 g8, .int .i64 g9] 25)).alloc (.cells (madeCells #[.bool false] N) 4)) := by
    have k1 := (Below.refl w.heap.size w).alloc (Nat.le_refl _) (.cells #[.slice (some ⟨b, off, none⟩) N cap, .int .i64 g1, .int .i64 g2, .int .i64 g3, .int .i64 g4, .int .i64 g5, .int .i64 g6, .int .i64 g7, .int .i64 g8, .int .i64 g9] 25)
    have k2 := k1.alloc (by simp) (.cells (madeCells #[.bool false] N) 4)
    have hr := bools_made (w.alloc (.cells #[.slice (some ⟨b, off, none⟩) N cap, .int .i64 g1, .int .i64 g2, .int .i64 g3, .int .i64 g4, .int .i64 g5, .int .i64 g6, .int .i64 g7, .int .i64 g8, .int .i64 g9] 25)) N
    rw [World.size_alloc] at hr
    exact ⟨Nat.lt_of_lt_of_le hb k2.size, fun k hk => (k2.cell (p := ⟨b, off + k, none⟩) hb).trans (HW.out k hk), (HeapBlk.new w _ _).below ((Below.refl _ _).alloc (Nat.le_refl _) _), by simp, hr, by omega, by omega, by omega, k2⟩
  have HB0 := hid hB0
  clear hB0 HW hmk
  refine (specRow_at b off cap _ _ N _ _ ws _ ⟨g1, g2, g3, g4, g5, g6, g7, g8, g9⟩ _ HB0.out.len hN8 (by obtain ⟨o1, o2, o3, o4, o5, o6, o7, o8, o9, o10, o11, o12, o13⟩ := HO.out; dsimp only at *; omega) (by obtain ⟨o1, o2, o3, o4, o5, o6, o7, o8, o9, o10, o11, o12, o13⟩ := HO.out; dsimp only at *; omega) (by obtain ⟨o1, o2, o3, o4, o5, o6, o7, o8, o9, o10, o11, o12, o13⟩ := HO.out; dsimp only at *; omega) HB0.out.blt HB0.out.words HB0.out.ne HB0.out.row).mono ?_
  rintro e W1 ⟨⟨ok, rfl, hres⟩, hg⟩
  rcases hres with ⟨hn, rfl⟩ | ⟨S1, hs1, rfl, hl1, hr1⟩
  · have HX := hid (begins_bad (R := R) (gcap := N) HB0.out hg (by rw [HR.out, hn]))
    obtain ⟨c0, c1, c2, c3, c4, c5, c6, c7, c8, c9⟩ := HeapBlk.cells ((hg.block _ (heap_lt HB0.out.blk) (by simp)).trans HB0.out.blk)
    dsimp only at c0 c1 c2 c3 c4 c5 c6 c7 c8 c9
    clear hg
    go_wp2_with fail
    exact bodyPost_ret (results_tmp2 (fn := Try.f64) rfl _ _ _) rfl HX.out
  have HB1 := hid (HB0.out.step hg hl1 hr1)
  have HR1 : Hid _ := HR.out.trans (by rw [hs1])
  obtain ⟨c0, c1, c2, c3, c4, c5, c6, c7, c8, c9⟩ := HB1.out.blk.cells
  dsimp only at c0 c1 c2 c3 c4 c5 c6 c7 c8 c9
  clear hg hl1 hr1 HB0 HR
  go_wp2_with fail
  clear c0 c1 c2 c3 c4 c5 c6 c7 c8 c9
  refine (specRow_at b off cap _ _ N _ _ ws _ ⟨g1, g2, g3, g4, g5, g6, g7, g8, g9⟩ _ HB1.out.len hN8 (by obtain ⟨o1, o2, o3, o4, o5, o6, o7, o8, o9, o10, o11, o12, o13⟩ := HO.out; dsimp only at *; omega) (by obtain ⟨o1, o2, o3, o4, o5, o6, o7, o8, o9, o10, o11, o12, o13⟩ := HO.out; dsimp only at *; omega) (by obtain ⟨o1, o2, o3, o4, o5, o6, o7, o8, o9, o10, o11, o12, o13⟩ := HO.out; dsimp only at *; omega) HB1.out.blt HB1.out.words HB1.out.ne HB1.out.row).mono ?_
  rintro e W2 ⟨⟨ok, rfl, hres⟩, hg⟩
  rcases hres with ⟨hn, rfl⟩ | ⟨S2, hs2, rfl, hl2, hr2⟩
  · have HX := hid (begins_bad (R := R) (gcap := N) HB1.out hg (by rw [HR1.out, hn]))
    obtain ⟨c0, c1, c2, c3, c4, c5, c6, c7, c8, c9⟩ := HeapBlk.cells ((hg.block _ (heap_lt HB1.out.blk) (by simp)).trans HB1.out.blk)
    dsimp only at c0 c1 c2 c3 c4 c5 c6 c7 c8 c9
    clear hg
    go_wp2_with fail
    exact bodyPost_ret (results_tmp2 (fn := Try.f64) rfl _ _ _) rfl HX.out
  have HB2 := hid (HB1.out.step hg hl2 hr2)
  have HR2 : Hid _ := HR1.out.trans (by rw [hs2])
  obtain ⟨c0, c1, c2, c3, c4, c5, c6, c7, c8, c9⟩ := HB2.out.blk.cells
  dsimp only at c0 c1 c2 c3 c4 c5 c6 c7 c8 c9
  clear hg hl2 hr2 HB1 HR1
  by_cases hsc : g5 < g3
  · have HR2' := hid (HR2.out.trans (if_pos hsc))
    clear HR2
    go_wp2_with fail
    clear c0 c1 c2 c3 c4 c5 c6 c7 c8 c9
    refine (HF.out _ hto0 hto1 (by omega) o2).mono ?_
    rintro e W2b ⟨rfl, hb2⟩
    have HB2b := hid (HB2.out.keep hb2)
    obtain ⟨c0, c1, c2, c3, c4, c5, c6, c7, c8, c9⟩ := HB2b.out.blk.cells
    dsimp only at c0 c1 c2 c3 c4 c5 c6 c7 c8 c9
    clear hb2 HB2 HF
    go_wp2_with fail
    clear c0 c1 c2 c3 c4 c5 c6 c7 c8 c9
    refine (specRow_at b off cap _ _ N _ _ ws _ ⟨g1, g2, g3, g4, g5, g6, g7, g8, g9⟩ _ HB2b.out.len hN8 (by obtain ⟨o1, o2, o3, o4, o5, o6, o7, o8, o9, o10, o11, o12, o13⟩ := HO.out; dsimp only at *; omega) (by obtain ⟨o1, o2, o3, o4, o5, o6, o7, o8, o9, o10, o11, o12, o13⟩ := HO.out; dsimp only at *; omega) (by obtain ⟨o1, o2, o3, o4, o5, o6, o7, o8, o9, o10, o11, o12, o13⟩ := HO.out; dsimp only at *; omega) HB2b.out.blt HB2b.out.words HB2b.out.ne HB2b.out.row).mono ?_
    rintro e W3 ⟨⟨ok, rfl, hres⟩, hg⟩
    rcases hres with ⟨hn, rfl⟩ | ⟨S3, hs3, rfl, hl3, hr3⟩
    · have HX := hid (begins_bad (R := R) (gcap := N) HB2b.out hg (by rw [HR2'.out, hn]))
      obtain ⟨c0, c1, c2, c3, c4, c5, c6, c7, c8, c9⟩ := HeapBlk.cells ((hg.block _ (heap_lt HB2b.out.blk) (by simp)).trans HB2b.out.blk)
      dsimp only at c0 c1 c2 c3 c4 c5 c6 c7 c8 c9
      clear hg
      go_wp2_with fail
      exact bodyPost_ret (results_tmp2 (fn := Try.f64) rfl _ _ _) rfl HX.out
    have HB3 := hid (HB2b.out.step hg hl3 hr3)
    have HR3 : Hid _ := HR2'.out.trans (by rw [hs3])
    obtain ⟨c0, c1, c2, c3, c4, c5, c6, c7, c8, c9⟩ := HB3.out.blk.cells
    dsimp only at c0 c1 c2 c3 c4 c5 c6 c7 c8 c9
    clear hg hl3 hr3 HB2b HR2'
    go_wp2_with fail
    clear c0 c1 c2 c3 c4 c5 c6 c7 c8 c9
    refine (specRow_at b off cap _ _ N _ _ ws _ ⟨g1, g2, g3, g4, g5, g6, g7, g8, g9⟩ _ HB3.out.len hN8 (by obtain ⟨o1, o2, o3, o4, o5, o6, o7, o8, o9, o10, o11, o12, o13⟩ := HO.out; dsimp only at *; omega) (by obtain ⟨o1, o2, o3, o4, o5, o6, o7, o8, o9, o10, o11, o12, o13⟩ := HO.out; dsimp only at *; omega) (by obtain ⟨o1, o2, o3, o4, o5, o6, o7, o8, o9, o10, o11, o12, o13⟩ := HO.out; dsimp only at *; omega) HB3.out.blt HB3.out.words HB3.out.ne HB3.out.row).mono ?_
    rintro e W4 ⟨⟨ok, rfl, hres⟩, hg⟩
    rcases hres with ⟨hn, rfl⟩ | ⟨S4, hs4, rfl, hl4, hr4⟩
    · have HX := hid (begins_bad (R := R) (gcap := N) HB3.out hg (by rw [HR3.out, hn]))
      obtain ⟨c0, c1, c2, c3, c4, c5, c6, c7, c8, c9⟩ := HeapBlk.cells ((hg.block _ (heap_lt HB3.out.blk) (by simp)).trans HB3.out.blk)
      dsimp only at c0 c1 c2 c3 c4 c5 c6 c7 c8 c9
      clear hg
      go_wp2_with fail
      exact bodyPost_ret (results_tmp2 (fn := Try.f64) rfl _ _ _) rfl HX.out
    have HB4 := hid (HB3.out.step hg hl4 hr4)
    have HR4 : Hid _ := HR3.out.trans (by rw [hs4])
    obtain ⟨c0, c1, c2, c3, c4, c5, c6, c7, c8, c9⟩ := HB4.out.blk.cells
    dsimp only at c0 c1 c2 c3 c4 c5 c6 c7 c8 c9
    clear hg hl4 hr4 HB3 HR3
    go_wp2_with fail
    exact bodyPost_ret (results_tmp2 (fn := Try.f64) rfl _ _ _) rfl (begins_ok HB4.out HR4.out)
  · have HR2' := hid (HR2.out.trans (if_neg hsc))
    clear HR2
    go_wp2_with fail
    exact bodyPost_ret (results_tmp2 (fn := Try.f64) rfl _ _ _) rfl (begins_ok HB2.out HR2'.out)
end Go.Proofs.Ytebpgglegnljgaa

namespace Go.Proofs.Ytebpgglegnljgaa
open Go.RowKit

def oldZ (h : HpN) (a : Nat) : Bool := !inZ h a || decide (h.scan ≤ (a : Int) ∧ (a : Int) < h.bottom)

def specMoved (ws S : List Int) (h : HpN) (a : Nat) : Bool :=
  !inZ h a && specLeads ws S h (ws.getD (a + 1) 0) false && decide (ws.getD (a + 1) 0 % 8 = 0) && decide (sizeZ (ws.getD (ws.getD (a + 1) 0 / 8).toNat 0) = sizeZ (ws.getD a 0))

def specAt (ws S : List Int) (h : HpN) (a : Nat) : Bool :=
  if ws.getD a 0 % 16 = 15 then specMoved ws S h a
  else (List.range (sizeN (ws.getD a 0) - 1)).all (fun i => specLeads ws S h (ws.getD (a + (i + 1)) 0) (oldZ h a))

def specObjs (ws S : List Int) (h : HpN) (N : Nat) : Bool := (List.range N).all (fun a => S.getD a 0 == 0 || specAt ws S h a)

def specOk (ws : List Int) (h : HpN) : Bool :=
  match specLay ws h with
  | none => false
  | some S => !(decide (h.scan < h.bottom) && S.getD h.scan.toNat 0 == 0) && specObjs ws S h ws.length

set_option maxHeartbeats 10000000 in
set_option maxRecDepth 100000 in
theorem specOk_bad (ad : Option Addr) (N cap : Nat) (h : HpN) (w : World) (hm : N ≤ 1048576) (hbad : ¬ Ordered h N) :
    Calls Try.prog 35 #[heapV (.slice ad N cap) h] w fun e w' => e = .returned (.bool false) ∧ Below w.heap.size w w' := by
  have HBAD := hid hbad
  have HM := hid hm
  clear hbad hm
  obtain ⟨g1, g2, g3, g4, g5, g6, g7, g8, g9⟩ := h
  unfold heapV
  dsimp only at *
  by_cases hA : 20 ≤ g1 ∧ g1 ≤ 4000 ∧ (N : Int) = 2 * g1 ∧ (g2 = 0 ∨ g2 = g1) ∧ 0 ≤ g8 ∧ 0 ≤ g9
  · obtain ⟨a1, a2, a3, a4, a5, a6⟩ := hA
    rcases a4 with rfl | rfl
    all_goals
      go_enter Try.func35, Try.ntmps35
      go_wp2_with fail
      refine (specFrom_calls _ ⟨_, _, g3, g4, g5, g6, g7, g8, g9⟩ _ (by dsimp only; omega) (by dsimp only; omega) (by dsimp only; omega) (by dsimp only; omega)).mono ?_
      rintro e W1 ⟨rfl, hb1⟩
      obtain ⟨eA, hbw⟩ := one_kept hb1
      obtain ⟨c0, c1, c2, c3, c4, c5, c6, c7, c8, c9⟩ := HeapBlk.cells (h := ⟨_, _, g3, g4, g5, g6, g7, g8, g9⟩) eA
      dsimp only at c0 c1 c2 c3 c4 c5 c6 c7 c8 c9
      have HBW := hid hbw
      clear hb1 hbw eA
      dsimp only
      go_wp2_with fail
      all_goals first
        | (go_ret
           exact ⟨rfl, HBW.out⟩)
        | (exfalso
           apply HBAD.out
           unfold Ordered
           dsimp only
           omega)
  · go_enter Try.func35, Try.ntmps35
    go_wp2_with fail
    all_goals first
      | (go_ret
         exact ⟨rfl, (Below.refl _ _).alloc (Nat.le_refl _) _⟩)
      | (exfalso
         apply hA
         omega)
end Go.Proofs.Ytebpgglegnljgaa

namespace Go.Proofs.Ytebpgglegnljgaa
open Go.RowKit

def firstLoop : Code → Option Code
  | .loop c => some c
  | .seq a b => match firstLoop a with
    | some c => some c
    | none => firstLoop b
  | .block _ c => firstLoop c
  | .scope c => firstLoop c
  | .cond _ a b => match firstLoop a with
    | some c => some c
    | none => firstLoop b
  | _ => none

noncomputable def specBody : Code := ((Try.f35.body.bind firstLoop).getD .skip)
noncomputable def specInBody : Code := ((firstLoop specBody).getD .skip)

theorem all_upto {P : Nat → Bool} {m : Nat} (H : ∀ k, k < m → P k = true) : (List.range m).all P = true := by
  rw [List.all_eq_true]
  exact fun k hk => H k (List.mem_range.1 hk)

theorem all_not {P : Nat → Bool} {m j : Nat} (hj : j < m) (hf : P j = false) : (List.range m).all P = false := by
  rw [List.all_eq_false]
  exact ⟨j, List.mem_range.2 hj, by simp [hf]⟩

set_option maxHeartbeats 4000000 in
set_option maxRecDepth 1000000 in
theorem specInner (b off cap gb gcap bH N a n : Nat) (ws S : List Int) (h : HpN) (inb : Bool) (hinb : inb = inZ h a) (w W : World) (hN : ws.length = N) (ho : Ordered h N) (ha : a + n ≤ N) (hB : BSt w b off bH gb N ws (.slice (some ⟨b, off, none⟩) N cap) h S W)
    (Q0 : Exit → Act → World → Prop) (c0 c2 c3 c5 c11 c12 c13 c14 c15 c16 c17 c18 c19 c20 c21 c22 c23 c24 c25 c26 c27 c28 c29 c30 c31 c32 c33 c34 c35 c36 c37 c38 c39 c40 c41 c42 c43 c44 c45 c46 c47 c48 c49 c50 c51 c52 c53 c54 c55 c56 c57 c58 c59 c60 c61 c62 c63 c64 c65 c66 c67 c68 c69 c70 c71 c72 c73 c74 c75 c76 c77 c78 c79 c80 c81 c82 c83 c84 c85 c86 c87 c88 c89 c90 c91 c92 c93 c94 c95 c96 c97 c98 c99 c100 c101 c102 c103 c104 c105 c106 c107 c108 c109 c110 c111 c112 c113 c114 c115 c116 c117 c118 c119 c120 c121 c122 c123 c124 c125 c126 c127 c128 c129 c130 c131 c132 c133 c134 c135 c136 c137 c138 c139 c140 c141 c142 c143 c144 c145 c146 c147 c148 c149 c150 c151 c152 c153 c154 c155 c156 c157 c158 c159 c160 c161 c162 c163 c164 c165 c166 c167 c168 c169 c170 c171 c172 c173 c174 c175 c176 c177 c178 c179 c180 c181 c182 c183 c184 c185 c186 c187 c188 c189 c190 c191 c192 c193 c194 c195 c196 c197 c198 c199 c200 c201 c202 c203 c204 c205 c206 c207 c208 c209 c210 c211 c212 c213 c214 c215 c216 c217 c218 c219 c220 c221 c222 c223 c224 c225 c226 c227 c228 c229 c230 c231 c232 c233 c234 c235 c236 c237 c238 c239 c240 : Value)
    (hret : ∀ (tmps : Array Value) (w' : World), tmps.getD 2 undef = .bool false → (List.range (n - 1)).all (fun i => specLeads ws S h (ws.getD (a + (i + 1)) 0) (oldZ h a)) = false → Below w.heap.size w w' → Q0 .ret ⟨tmps, []⟩ w')
    (hexit : ∀ (d2 d10 d11 d206 d207 d208 d209 d210 d211 d212 d213 d214 d215 d216 d217 d218 d219 d220 d221 d222 d223 d224 d225 d226 d227 d228 d229 d230 d231 d232 d233 d234 d235 d236 d237 d238 d239 d240 : Value) (w' : World), (List.range (n - 1)).all (fun i => specLeads ws S h (ws.getD (a + (i + 1)) 0) (oldZ h a)) = true → BSt w b off bH gb N ws (.slice (some ⟨b, off, none⟩) N cap) h S w' → Q0 (.exit 2) ⟨(List.toArray (c0 :: .pointer (some ⟨bH, 0, none⟩) :: d2 :: c3 :: .slice (some ⟨gb, 0, none⟩) N gcap :: c5 :: .int .i64 (a : Int) :: .bool inb :: .int .i64 (n : Int) :: .bool false :: d10 :: d11 :: c12 :: c13 :: c14 :: c15 :: c16 :: c17 :: c18 :: c19 :: c20 :: c21 :: c22 :: c23 :: c24 :: c25 :: c26 :: c27 :: c28 :: c29 :: c30 :: c31 :: c32 :: c33 :: c34 :: c35 :: c36 :: c37 :: c38 :: c39 :: c40 :: c41 :: c42 :: c43 :: c44 :: c45 :: c46 :: c47 :: c48 :: c49 :: c50 :: c51 :: c52 :: c53 :: c54 :: c55 :: c56 :: c57 :: c58 :: c59 :: c60 :: c61 :: c62 :: c63 :: c64 :: c65 :: c66 :: c67 :: c68 :: c69 :: c70 :: c71 :: c72 :: c73 :: c74 :: c75 :: c76 :: c77 :: c78 :: c79 :: c80 :: c81 :: c82 :: c83 :: c84 :: c85 :: c86 :: c87 :: c88 :: c89 :: c90 :: c91 :: c92 :: c93 :: c94 :: c95 :: c96 :: c97 :: c98 :: c99 :: c100 :: c101 :: c102 :: c103 :: c104 :: c105 :: c106 :: c107 :: c108 :: c109 :: c110 :: c111 :: c112 :: c113 :: c114 :: c115 :: c116 :: c117 :: c118 :: c119 :: c120 :: c121 :: c122 :: c123 :: c124 :: c125 :: c126 :: c127 :: c128 :: c129 :: c130 :: c131 :: c132 :: c133 :: c134 :: c135 :: c136 :: c137 :: c138 :: c139 :: c140 :: c141 :: c142 :: c143 :: c144 :: c145 :: c146 :: c147 :: c148 :: c149 :: c150 :: c151 :: c152 :: c153 :: c154 :: c155 :: c156 :: c157 :: c158 :: c159 :: c160 :: c161 :: c162 :: c163 :: c164 :: c165 :: c166 :: c167 :: c168 :: c169 :: c170 :: c171 :: c172 :: c173 :: c174 :: c175 :: c176 :: c177 :: c178 :: c179 :: c180 :: c181 :: c182 :: c183 :: c184 :: c185 :: c186 :: c187 :: c188 :: c189 :: c190 :: c191 :: c192 :: c193 :: c194 :: c195 :: c196 :: c197 :: c198 :: c199 :: c200 :: c201 :: c202 :: c203 :: c204 :: c205 :: d206 :: d207 :: d208 :: d209 :: d210 :: d211 :: d212 :: d213 :: d214 :: d215 :: d216 :: d217 :: d218 :: d219 :: d220 :: d221 :: d222 :: d223 :: d224 :: d225 :: d226 :: d227 :: d228 :: d229 :: d230 :: d231 :: d232 :: d233 :: d234 :: d235 :: d236 :: d237 :: d238 :: d239 :: d240 :: [])), []⟩ w')
    : Code.wp Try.prog (Code.loop specInBody) Q0 ⟨(List.toArray (c0 :: .pointer (some ⟨bH, 0, none⟩) :: c2 :: c3 :: .slice (some ⟨gb, 0, none⟩) N gcap :: c5 :: .int .i64 (a : Int) :: .bool inb :: .int .i64 (n : Int) :: .bool false :: .int .i64 1 :: c11 :: c12 :: c13 :: c14 :: c15 :: c16 :: c17 :: c18 :: c19 :: c20 :: c21 :: c22 :: c23 :: c24 :: c25 :: c26 :: c27 :: c28 :: c29 :: c30 :: c31 :: c32 :: c33 :: c34 :: c35 :: c36 :: c37 :: c38 :: c39 :: c40 :: c41 :: c42 :: c43 :: c44 :: c45 :: c46 :: c47 :: c48 :: c49 :: c50 :: c51 :: c52 :: c53 :: c54 :: c55 :: c56 :: c57 :: c58 :: c59 :: c60 :: c61 :: c62 :: c63 :: c64 :: c65 :: c66 :: c67 :: c68 :: c69 :: c70 :: c71 :: c72 :: c73 :: c74 :: c75 :: c76 :: c77 :: c78 :: c79 :: c80 :: c81 :: c82 :: c83 :: c84 :: c85 :: c86 :: c87 :: c88 :: c89 :: c90 :: c91 :: c92 :: c93 :: c94 :: c95 :: c96 :: c97 :: c98 :: c99 :: c100 :: c101 :: c102 :: c103 :: c104 :: c105 :: c106 :: c107 :: c108 :: c109 :: c110 :: c111 :: c112 :: c113 :: c114 :: c115 :: c116 :: c117 :: c118 :: c119 :: c120 :: c121 :: c122 :: c123 :: c124 :: c125 :: c126 :: c127 :: c128 :: c129 :: c130 :: c131 :: c132 :: c133 :: c134 :: c135 :: c136 :: c137 :: c138 :: c139 :: c140 :: c141 :: c142 :: c143 :: c144 :: c145 :: c146 :: c147 :: c148 :: c149 :: c150 :: c151 :: c152 :: c153 :: c154 :: c155 :: c156 :: c157 :: c158 :: c159 :: c160 :: c161 :: c162 :: c163 :: c164 :: c165 :: c166 :: c167 :: c168 :: c169 :: c170 :: c171 :: c172 :: c173 :: c174 :: c175 :: c176 :: c177 :: c178 :: c179 :: c180 :: c181 :: c182 :: c183 :: c184 :: c185 :: c186 :: c187 :: c188 :: c189 :: c190 :: c191 :: c192 :: c193 :: c194 :: c195 :: c196 :: c197 :: c198 :: c199 :: c200 :: c201 :: c202 :: c203 :: c204 :: c205 :: c206 :: c207 :: c208 :: c209 :: c210 :: c211 :: c212 :: c213 :: c214 :: c215 :: c216 :: c217 :: c218 :: c219 :: c220 :: c221 :: c222 :: c223 :: c224 :: c225 :: c226 :: c227 :: c228 :: c229 :: c230 :: c231 :: c232 :: c233 :: c234 :: c235 :: c236 :: c237 :: c238 :: c239 :: c240 :: [])), []⟩ W := by
  have HL := hid (fun (w' : World) (x : Int) (old : Bool) (hB' : BSt w b off bH gb N ws (.slice (some ⟨b, off, none⟩) N cap) h S w') =>
    specLeads_calls b off cap gb gcap ws S h x old w' (by rw [hN]; exact ho) (hB'.len.trans hN.symm) hB'.blt (by rw [hN]; exact hB'.words) hB'.row.lt (by rw [hB'.len]; exact fun k hk => hB'.row.cell hk))
  have HO := hid ho
  have HB0 := hid hB
  have HN := hid hN
  have HRet := hid hret
  have HExit := hid hexit
  rw [hN, hB.len] at HL
  have HInb := hid hinb
  clear ho hB hN hret hexit hinb
  obtain ⟨g1, g2, g3, g4, g5, g6, g7, g8, g9⟩ := h
  unfold heapV at HL
  dsimp only at *
  conv => arg 2; arg 1; whnf
  go_loopw [10] (fun i wr => ∃ j : Nat, i = .int .i64 ((j + 1 : Nat) : Int) ∧ Hid (BSt w b off bH gb N ws (.slice (some ⟨b, off, none⟩) N cap) ⟨g1, g2, g3, g4, g5, g6, g7, g8, g9⟩ S wr ∧ (n = 0 ∨ j + 1 ≤ n) ∧ ∀ k, k < j → specLeads ws S ⟨g1, g2, g3, g4, g5, g6, g7, g8, g9⟩ (ws.getD (a + (k + 1)) 0) (oldZ ⟨g1, g2, g3, g4, g5, g6, g7, g8, g9⟩ a) = true)) (fun i _ => n - (intOf i).toNat)
  case atStart => exact ⟨0, rfl, HB0.out, by omega, fun k hk => absurd hk (by omega)⟩
  case round =>
    obtain ⟨j, rfl, HI⟩ := hrel
    clear HB0
    obtain ⟨c0, c1, c2, c3, c4, c5, c6, c7, c8, c9⟩ := HI.out.1.blk.cells
    dsimp only at c0 c1 c2 c3 c4 c5 c6 c7 c8 c9
    generalize hj1 : j + 1 = j1 at *
    have HJ1 := hid hj1
    clear hj1
    by_cases hlt : (j1 : Int) < (n : Int)
    · have cw := HI.out.1.words (a + j1) (by omega)
      have hold : oldZ ⟨g1, g2, g3, g4, g5, g6, g7, g8, g9⟩ a = (!inb || decide (g5 ≤ (a : Int) ∧ (a : Int) < g3)) := by rw [HInb.out]; rfl
      have HOld := hid hold
      clear hold
      generalize oldZ ⟨g1, g2, g3, g4, g5, g6, g7, g8, g9⟩ a = old at *
      have ha8 : (a : Int) + (j1 : Int) ≤ 8000 := by obtain ⟨o1, o2, o3, _⟩ := HO.out; dsimp only at *; omega
      have hs : Hid (n - (intOf (.int .i64 ((j1 + 1 : Nat) : Int))).toNat < n - (intOf (.int .i64 (j1 : Int))).toNat) := by simp only [intOf, Int.toNat_natCast]; show _ < _; omega
      have HWJ := hid (show wrap64 ((j1 : Int) + 1) = ((j1 + 1 : Nat) : Int) from wrap_inc (n := N) (by omega) (by obtain ⟨o1, o2, o3, _⟩ := HO.out; dsimp only at *; omega))
      have hbH := heap_lt HI.out.1.blk
      have hbL := HI.out.1.blt
      have HP : Hid (specLeads ws S ⟨g1, g2, g3, g4, g5, g6, g7, g8, g9⟩ (ws.getD (a + (j + 1)) 0) old = specLeads ws S ⟨g1, g2, g3, g4, g5, g6, g7, g8, g9⟩ (ws.getD (a + j1) 0) old) := by rw [← HJ1.out]; rfl
      have HLx := hid (fun x : Later wr.heap.size wr => HL.out x.w (ws.getD (a + j1) 0) old (HI.out.1.keep x.h))
      clear HL
      generalize specLeads ws S ⟨g1, g2, g3, g4, g5, g6, g7, g8, g9⟩ (ws.getD (a + j1) 0) old = P at *
      generalize ws.getD (a + j1) 0 = y at *
      have v0 : ∀ x : Later wr.heap.size wr, x.w.cell? ⟨bH, 0, none⟩ = some (.slice (some ⟨b, off, none⟩) N cap) := fun x => x.cell hbH c0
      have v1 : ∀ x : Later wr.heap.size wr, x.w.cell? ⟨bH, 1, none⟩ = some (.int .i64 g1) := fun x => x.cell hbH c1
      have v2 : ∀ x : Later wr.heap.size wr, x.w.cell? ⟨bH, 2, none⟩ = some (.int .i64 g2) := fun x => x.cell hbH c2
      have v3 : ∀ x : Later wr.heap.size wr, x.w.cell? ⟨bH, 3, none⟩ = some (.int .i64 g3) := fun x => x.cell hbH c3
      have v4 : ∀ x : Later wr.heap.size wr, x.w.cell? ⟨bH, 4, none⟩ = some (.int .i64 g4) := fun x => x.cell hbH c4
      have v5 : ∀ x : Later wr.heap.size wr, x.w.cell? ⟨bH, 5, none⟩ = some (.int .i64 g5) := fun x => x.cell hbH c5
      have v6 : ∀ x : Later wr.heap.size wr, x.w.cell? ⟨bH, 6, none⟩ = some (.int .i64 g6) := fun x => x.cell hbH c6
      have v7 : ∀ x : Later wr.heap.size wr, x.w.cell? ⟨bH, 7, none⟩ = some (.int .i64 g7) := fun x => x.cell hbH c7
      have v8 : ∀ x : Later wr.heap.size wr, x.w.cell? ⟨bH, 8, none⟩ = some (.int .i64 g8) := fun x => x.cell hbH c8
      have v9 : ∀ x : Later wr.heap.size wr, x.w.cell? ⟨bH, 9, none⟩ = some (.int .i64 g9) := fun x => x.cell hbH c9
      have vw : ∀ x : Later wr.heap.size wr, x.w.cell? ⟨b, off + (a + j1), none⟩ = some (.int .i64 y) := fun x => x.cell hbL cw
      cases inb
      · have ho1 : old = true := by rw [HOld.out]; rfl
        subst ho1
        go_wp2_with fail
        clear c1 c2 c3 c4 c5 c6 c7 c8 c9 c0 cw
        refine wp_region_calm wr.heap.size (by kernel_rfl) (by kernel_rfl) ?_
        repeat (go_big_quiet_step (first
          | (rename_i x; go_at_call 66; refine (HLx.out x).mono ?_; rintro e w5 ⟨rfl, hb5⟩; exact ⟨rfl, ⟨w5, x.h.trans (hb5.mono x.h.size)⟩, rfl⟩)))
        refine wpQuiet_nil ?_
        rintro w5 ⟨x, rfl⟩
        have HBx := hid (HI.out.1.keep x.h)
        clear v0 v1 v2 v3 v4 v5 v6 v7 v8 v9 vw
        cases P
        · go_wp2_with fail
          exact HRet.out _ x.w rfl (all_not (j := j) (by have := HJ1.out; omega) HP.out) HBx.out.below
        · go_wp2_with fail
          try rw [HWJ.out]
          refine ⟨⟨j + 1, by rw [HJ1.out]; push_cast; rfl, HBx.out, by have := HJ1.out; omega, fun k hk => ?_⟩, ?_⟩
          · by_cases hkj : k < j
            · exact HI.out.2.2 k hkj
            · rw [show k = j by omega]
              exact HP.out
          · exact hs.out
      · by_cases hq1 : g5 ≤ (a : Int)
        · by_cases hq2 : (a : Int) < g3
          · have ho1 : old = true := by rw [HOld.out, decide_eq_true ⟨hq1, hq2⟩]; rfl
            subst ho1
            go_wp2_with fail
            clear c1 c2 c3 c4 c5 c6 c7 c8 c9 c0 cw
            refine wp_region_calm wr.heap.size (by kernel_rfl) (by kernel_rfl) ?_
            repeat (go_big_quiet_step (first
              | (rename_i x; go_at_call 66; refine (HLx.out x).mono ?_; rintro e w5 ⟨rfl, hb5⟩; exact ⟨rfl, ⟨w5, x.h.trans (hb5.mono x.h.size)⟩, rfl⟩)))
            refine wpQuiet_nil ?_
            rintro w5 ⟨x, rfl⟩
            have HBx := hid (HI.out.1.keep x.h)
            clear v0 v1 v2 v3 v4 v5 v6 v7 v8 v9 vw
            cases P
            · go_wp2_with fail
              exact HRet.out _ x.w rfl (all_not (j := j) (by have := HJ1.out; omega) HP.out) HBx.out.below
            · go_wp2_with fail
              try rw [HWJ.out]
              refine ⟨⟨j + 1, by rw [HJ1.out]; push_cast; rfl, HBx.out, by have := HJ1.out; omega, fun k hk => ?_⟩, ?_⟩
              · by_cases hkj : k < j
                · exact HI.out.2.2 k hkj
                · rw [show k = j by omega]
                  exact HP.out
              · exact hs.out
          · have ho1 : old = false := by rw [HOld.out, decide_eq_false (fun e => hq2 e.2)]; rfl
            subst ho1
            go_wp2_with fail
            clear c1 c2 c3 c4 c5 c6 c7 c8 c9 c0 cw
            refine wp_region_calm wr.heap.size (by kernel_rfl) (by kernel_rfl) ?_
            repeat (go_big_quiet_step (first
              | (rename_i x; go_at_call 66; refine (HLx.out x).mono ?_; rintro e w5 ⟨rfl, hb5⟩; exact ⟨rfl, ⟨w5, x.h.trans (hb5.mono x.h.size)⟩, rfl⟩)))
            refine wpQuiet_nil ?_
            rintro w5 ⟨x, rfl⟩
            have HBx := hid (HI.out.1.keep x.h)
            clear v0 v1 v2 v3 v4 v5 v6 v7 v8 v9 vw
            cases P
            · go_wp2_with fail
              exact HRet.out _ x.w rfl (all_not (j := j) (by have := HJ1.out; omega) HP.out) HBx.out.below
            · go_wp2_with fail
              try rw [HWJ.out]
              refine ⟨⟨j + 1, by rw [HJ1.out]; push_cast; rfl, HBx.out, by have := HJ1.out; omega, fun k hk => ?_⟩, ?_⟩
              · by_cases hkj : k < j
                · exact HI.out.2.2 k hkj
                · rw [show k = j by omega]
                  exact HP.out
              · exact hs.out
        · have ho1 : old = false := by rw [HOld.out, decide_eq_false (fun e => hq1 e.1)]; rfl
          subst ho1
          go_wp2_with fail
          clear c1 c2 c3 c4 c5 c6 c7 c8 c9 c0 cw
          refine wp_region_calm wr.heap.size (by kernel_rfl) (by kernel_rfl) ?_
          repeat (go_big_quiet_step (first
            | (rename_i x; go_at_call 66; refine (HLx.out x).mono ?_; rintro e w5 ⟨rfl, hb5⟩; exact ⟨rfl, ⟨w5, x.h.trans (hb5.mono x.h.size)⟩, rfl⟩)))
          refine wpQuiet_nil ?_
          rintro w5 ⟨x, rfl⟩
          have HBx := hid (HI.out.1.keep x.h)
          clear v0 v1 v2 v3 v4 v5 v6 v7 v8 v9 vw
          cases P
          · go_wp2_with fail
            exact HRet.out _ x.w rfl (all_not (j := j) (by have := HJ1.out; omega) HP.out) HBx.out.below
          · go_wp2_with fail
            try rw [HWJ.out]
            refine ⟨⟨j + 1, by rw [HJ1.out]; push_cast; rfl, HBx.out, by have := HJ1.out; omega, fun k hk => ?_⟩, ?_⟩
            · by_cases hkj : k < j
              · exact HI.out.2.2 k hkj
              · rw [show k = j by omega]
                exact HP.out
            · exact hs.out
    · go_wp2_with fail
      exact HExit.out _ _ _ _ _ _ _ _ _ _ _ _ _ _ _ _ _ _ _ _ _ _ _ _ _ _ _ _ _ _ _ _ _ _ _ _ _ _ wr (all_upto (fun k hk => HI.out.2.2 k (by have := HJ1.out; omega))) HI.out.1
end Go.Proofs.Ytebpgglegnljgaa

namespace Go.Proofs.Ytebpgglegnljgaa
open Go.RowKit

theorem objs_true {ws S : List Int} {h : HpN} {N : Nat} (H : ∀ k, k < N → S.getD k 0 = 0 ∨ specAt ws S h k = true) : specObjs ws S h N = true := by
  unfold specObjs
  rw [List.all_eq_true]
  intro k hk
  rcases H k (List.mem_range.1 hk) with e | e
  · rw [e]
    rfl
  · simp [e]

theorem objs_false {ws S : List Int} {h : HpN} {N a : Nat} (ha : a < N) (h0 : S.getD a 0 ≠ 0) (hf : specAt ws S h a = false) : specObjs ws S h N = false := by
  unfold specObjs
  rw [List.all_eq_false]
  exact ⟨a, List.mem_range.2 ha, by simp [hf]; simpa using h0⟩

set_option maxHeartbeats 4000000 in
set_option maxRecDepth 1000000 in
theorem specLoop (b off cap gb gcap bH N : Nat) (ws S : List Int) (h : HpN) (w W : World) (hN : ws.length = N) (ho : Ordered h N) (hS : Noted ws S) (hB : BSt w b off bH gb N ws (.slice (some ⟨b, off, none⟩) N cap) h S W)
    (Q0 : Exit → Act → World → Prop)
    (hret : ∀ (tmps : Array Value) (w' : World), tmps.getD 2 undef = .bool false → specObjs ws S h N = false → Below w.heap.size w w' → Q0 .ret ⟨tmps, []⟩ w')
    (hexit : ∀ (d0 d1 d2 d3 d4 d5 d6 d7 d8 d9 d10 d11 d12 d13 d14 d15 d16 d17 d18 d19 d20 d21 d22 d23 d24 d25 d26 d27 d28 d29 d30 d31 d32 d33 d34 d35 d36 d37 d38 d39 d40 d41 d42 d43 d44 d45 d46 d47 d48 d49 d50 d51 d52 d53 d54 d55 d56 d57 d58 d59 d60 d61 d62 d63 d64 d65 d66 d67 d68 d69 d70 d71 d72 d73 d74 d75 d76 d77 d78 d79 d80 d81 d82 d83 d84 d85 d86 d87 d88 d89 d90 d91 d92 d93 d94 d95 d96 d97 d98 d99 d100 d101 d102 d103 d104 d105 d106 d107 d108 d109 d110 d111 d112 d113 d114 d115 d116 d117 d118 d119 d120 d121 d122 d123 d124 d125 d126 d127 d128 d129 d130 d131 d132 d133 d134 d135 d136 d137 d138 d139 d140 d141 d142 d143 d144 d145 d146 d147 d148 d149 d150 d151 d152 d153 d154 d155 d156 d157 d158 d159 d160 d161 d162 d163 d164 d165 d166 d167 d168 d169 d170 d171 d172 d173 d174 d175 d176 d177 d178 d179 d180 d181 d182 d183 d184 d185 d186 d187 d188 d189 d190 d191 d192 d193 d194 d195 d196 d197 d198 d199 d200 d201 d202 d203 d204 d205 d206 d207 d208 d209 d210 d211 d212 d213 d214 d215 d216 d217 d218 d219 d220 d221 d222 d223 d224 d225 d226 d227 d228 d229 d230 d231 d232 d233 d234 d235 d236 d237 d238 d239 d240 : Value) (w' : World), specObjs ws S h N = true → Below w.heap.size w w' → Q0 (.exit 0) ⟨(List.toArray (d0 :: d1 :: d2 :: d3 :: d4 :: d5 :: d6 :: d7 :: d8 :: d9 :: d10 :: d11 :: d12 :: d13 :: d14 :: d15 :: d16 :: d17 :: d18 :: d19 :: d20 :: d21 :: d22 :: d23 :: d24 :: d25 :: d26 :: d27 :: d28 :: d29 :: d30 :: d31 :: d32 :: d33 :: d34 :: d35 :: d36 :: d37 :: d38 :: d39 :: d40 :: d41 :: d42 :: d43 :: d44 :: d45 :: d46 :: d47 :: d48 :: d49 :: d50 :: d51 :: d52 :: d53 :: d54 :: d55 :: d56 :: d57 :: d58 :: d59 :: d60 :: d61 :: d62 :: d63 :: d64 :: d65 :: d66 :: d67 :: d68 :: d69 :: d70 :: d71 :: d72 :: d73 :: d74 :: d75 :: d76 :: d77 :: d78 :: d79 :: d80 :: d81 :: d82 :: d83 :: d84 :: d85 :: d86 :: d87 :: d88 :: d89 :: d90 :: d91 :: d92 :: d93 :: d94 :: d95 :: d96 :: d97 :: d98 :: d99 :: d100 :: d101 :: d102 :: d103 :: d104 :: d105 :: d106 :: d107 :: d108 :: d109 :: d110 :: d111 :: d112 :: d113 :: d114 :: d115 :: d116 :: d117 :: d118 :: d119 :: d120 :: d121 :: d122 :: d123 :: d124 :: d125 :: d126 :: d127 :: d128 :: d129 :: d130 :: d131 :: d132 :: d133 :: d134 :: d135 :: d136 :: d137 :: d138 :: d139 :: d140 :: d141 :: d142 :: d143 :: d144 :: d145 :: d146 :: d147 :: d148 :: d149 :: d150 :: d151 :: d152 :: d153 :: d154 :: d155 :: d156 :: d157 :: d158 :: d159 :: d160 :: d161 :: d162 :: d163 :: d164 :: d165 :: d166 :: d167 :: d168 :: d169 :: d170 :: d171 :: d172 :: d173 :: d174 :: d175 :: d176 :: d177 :: d178 :: d179 :: d180 :: d181 :: d182 :: d183 :: d184 :: d185 :: d186 :: d187 :: d188 :: d189 :: d190 :: d191 :: d192 :: d193 :: d194 :: d195 :: d196 :: d197 :: d198 :: d199 :: d200 :: d201 :: d202 :: d203 :: d204 :: d205 :: d206 :: d207 :: d208 :: d209 :: d210 :: d211 :: d212 :: d213 :: d214 :: d215 :: d216 :: d217 :: d218 :: d219 :: d220 :: d221 :: d222 :: d223 :: d224 :: d225 :: d226 :: d227 :: d228 :: d229 :: d230 :: d231 :: d232 :: d233 :: d234 :: d235 :: d236 :: d237 :: d238 :: d239 :: d240 :: [])), []⟩ w')
    (c0 c2 c3 c5 c7 c8 c9 c10 c11 c12 c13 c14 c15 c16 c17 c18 c19 c20 c21 c22 c23 c24 c25 c26 c27 c28 c29 c30 c31 c32 c33 c34 c35 c36 c37 c38 c39 c40 c41 c42 c43 c44 c45 c46 c47 c48 c49 c50 c51 c52 c53 c54 c55 c56 c57 c58 c59 c60 c61 c62 c63 c64 c65 c66 c67 c68 c69 c70 c71 c72 c73 c74 c75 c76 c77 c78 c79 c80 c81 c82 c83 c84 c85 c86 c87 c88 c89 c90 c91 c92 c93 c94 c95 c96 c97 c98 c99 c100 c101 c102 c103 c104 c105 c106 c107 c108 c109 c110 c111 c112 c113 c114 c115 c116 c117 c118 c119 c120 c121 c122 c123 c124 c125 c126 c127 c128 c129 c130 c131 c132 c133 c134 c135 c136 c137 c138 c139 c140 c141 c142 c143 c144 c145 c146 c147 c148 c149 c150 c151 c152 c153 c154 c155 c156 c157 c158 c159 c160 c161 c162 c163 c164 c165 c166 c167 c168 c169 c170 c171 c172 c173 c174 c175 c176 c177 c178 c179 c180 c181 c182 c183 c184 c185 c186 c187 c188 c189 c190 c191 c192 c193 c194 c195 c196 c197 c198 c199 c200 c201 c202 c203 c204 c205 c206 c207 c208 c209 c210 c211 c212 c213 c214 c215 c216 c217 c218 c219 c220 c221 c222 c223 c224 c225 c226 c227 c228 c229 c230 c231 c232 c233 c234 c235 c236 c237 c238 c239 c240 : Value) : Code.wp Try.prog (Code.loop specBody) Q0 ⟨(List.toArray (c0 :: .pointer (some ⟨bH, 0, none⟩) :: c2 :: c3 :: .slice (some ⟨gb, 0, none⟩) N gcap :: c5 :: .int .i64 0 :: c7 :: c8 :: c9 :: c10 :: c11 :: c12 :: c13 :: c14 :: c15 :: c16 :: c17 :: c18 :: c19 :: c20 :: c21 :: c22 :: c23 :: c24 :: c25 :: c26 :: c27 :: c28 :: c29 :: c30 :: c31 :: c32 :: c33 :: c34 :: c35 :: c36 :: c37 :: c38 :: c39 :: c40 :: c41 :: c42 :: c43 :: c44 :: c45 :: c46 :: c47 :: c48 :: c49 :: c50 :: c51 :: c52 :: c53 :: c54 :: c55 :: c56 :: c57 :: c58 :: c59 :: c60 :: c61 :: c62 :: c63 :: c64 :: c65 :: c66 :: c67 :: c68 :: c69 :: c70 :: c71 :: c72 :: c73 :: c74 :: c75 :: c76 :: c77 :: c78 :: c79 :: c80 :: c81 :: c82 :: c83 :: c84 :: c85 :: c86 :: c87 :: c88 :: c89 :: c90 :: c91 :: c92 :: c93 :: c94 :: c95 :: c96 :: c97 :: c98 :: c99 :: c100 :: c101 :: c102 :: c103 :: c104 :: c105 :: c106 :: c107 :: c108 :: c109 :: c110 :: c111 :: c112 :: c113 :: c114 :: c115 :: c116 :: c117 :: c118 :: c119 :: c120 :: c121 :: c122 :: c123 :: c124 :: c125 :: c126 :: c127 :: c128 :: c129 :: c130 :: c131 :: c132 :: c133 :: c134 :: c135 :: c136 :: c137 :: c138 :: c139 :: c140 :: c141 :: c142 :: c143 :: c144 :: c145 :: c146 :: c147 :: c148 :: c149 :: c150 :: c151 :: c152 :: c153 :: c154 :: c155 :: c156 :: c157 :: c158 :: c159 :: c160 :: c161 :: c162 :: c163 :: c164 :: c165 :: c166 :: c167 :: c168 :: c169 :: c170 :: c171 :: c172 :: c173 :: c174 :: c175 :: c176 :: c177 :: c178 :: c179 :: c180 :: c181 :: c182 :: c183 :: c184 :: c185 :: c186 :: c187 :: c188 :: c189 :: c190 :: c191 :: c192 :: c193 :: c194 :: c195 :: c196 :: c197 :: c198 :: c199 :: c200 :: c201 :: c202 :: c203 :: c204 :: c205 :: c206 :: c207 :: c208 :: c209 :: c210 :: c211 :: c212 :: c213 :: c214 :: c215 :: c216 :: c217 :: c218 :: c219 :: c220 :: c221 :: c222 :: c223 :: c224 :: c225 :: c226 :: c227 :: c228 :: c229 :: c230 :: c231 :: c232 :: c233 :: c234 :: c235 :: c236 :: c237 :: c238 :: c239 :: c240 :: [])), []⟩ W := by
  have HL := hid (fun (w' : World) (x : Int) (old : Bool) (hB' : BSt w b off bH gb N ws (.slice (some ⟨b, off, none⟩) N cap) h S w') =>
    specLeads_calls b off cap gb gcap ws S h x old w' (by rw [hN]; exact ho) (hB'.len.trans hN.symm) hB'.blt (by rw [hN]; exact hB'.words) hB'.row.lt (by rw [hB'.len]; exact fun k hk => hB'.row.cell hk))
  rw [hN, hB.len] at HL
  have HO := hid ho
  have HS := hid hS
  have HB0 := hid hB
  have HN := hid hN
  have HRet := hid hret
  have HExit := hid hexit
  clear ho hS hB hN hret hexit
  obtain ⟨g1, g2, g3, g4, g5, g6, g7, g8, g9⟩ := h
  unfold heapV at HL
  dsimp only at *
  conv => arg 2; arg 1; whnf
  go_loopw [6] (fun i wr => ∃ a : Nat, i = .int .i64 a ∧ Hid (BSt w b off bH gb N ws (.slice (some ⟨b, off, none⟩) N cap) ⟨g1, g2, g3, g4, g5, g6, g7, g8, g9⟩ S wr ∧ a ≤ N ∧ ∀ k, k < a → S.getD k 0 = 0 ∨ specAt ws S ⟨g1, g2, g3, g4, g5, g6, g7, g8, g9⟩ k = true)) (fun i _ => N - (intOf i).toNat)
  case atStart => exact ⟨0, rfl, HB0.out, Nat.zero_le _, fun k hk => absurd hk (by omega)⟩
  case round =>
    obtain ⟨a, rfl, HI⟩ := hrel
    clear HB0
    obtain ⟨c0, c1, c2, c3, c4, c5, c6, c7, c8, c9⟩ := HI.out.1.blk.cells
    dsimp only at c0 c1 c2 c3 c4 c5 c6 c7 c8 c9
    by_cases hlt : (a : Int) < (N : Int)
    · have hwa : wrap64 ((a : Int) + 1) = ((a + 1 : Nat) : Int) := wrap_inc (n := N) (by omega) (by obtain ⟨o1, o2, o3, _⟩ := HO.out; dsimp only at *; omega)
      have HWA := hid hwa
      clear hwa
      have q0 := HI.out.1.row.cell (i := a) (by omega)
      unfold boolCells at q0
      have hs : Hid (N - (intOf (.int .i64 ((a + 1 : Nat) : Int))).toNat < N - (intOf (.int .i64 (a : Int))).toNat) := by simp only [intOf, Int.toNat_natCast]; show _ < _; omega
      by_cases hS0 : S.getD a 0 = 0
      · rw [hS0] at q0
        go_wp2_with fail
        rw [HWA.out]
        exact ⟨⟨a + 1, rfl, HI.out.1, by omega, fun k hk => by
          by_cases hka : k < a
          · exact HI.out.2.2 k hka
          · rw [show k = a by omega]
            exact Or.inl hS0⟩, hs.out⟩
      · have hq : (S.getD a 0 != 0) = true := by simpa using hS0
        rw [hq] at q0
        obtain ⟨_, hsz, hin⟩ := HS.out.2 a hS0
        have cw := HI.out.1.words a (by omega)
        have hg0 : 0 ≤ g2 := by obtain ⟨o1, o2, o3, o4, _⟩ := HO.out; dsimp only at *; omega
        have hg1 : g2 ≤ 4000 := by obtain ⟨o1, o2, o3, o4, _⟩ := HO.out; dsimp only at *; omega
        have hg2 : g1 ≤ 4000 := HO.out.2.1
        have hg3 : 20 ≤ g1 := HO.out.1
        have h3 := size_three (ws.getD a 0)
        have hb15 := and15 (ws.getD a 0)
        have HSZ := hid hsz
        have HIN := hid hin
        clear hsz hin
        have ES := hid (sizeN_cast (ws.getD a 0)).symm
        have HS0 := hid hS0
        clear hS0 hq
        by_cases hmv : ws.getD a 0 % 16 = 15
        · have HAt : Hid (specAt ws S ⟨g1, g2, g3, g4, g5, g6, g7, g8, g9⟩ a = specMoved ws S ⟨g1, g2, g3, g4, g5, g6, g7, g8, g9⟩ a) := if_pos hmv
          have hbm : (bits .and .i64 (ws.getD a 0) 15 == 15) = true := by rw [hb15, hmv]; rfl
          have h1N : a + 1 < N := by
            have e1 := HSZ.out
            have e2 := HS0.out
            have e3 := HIN.out
            have e4 := ES.out
            have e5 := HN.out
            omega
          have hn1 : (1 : Int) < (sizeN (ws.getD a 0) : Int) := by
            have e1 := HSZ.out
            have e2 := HS0.out
            have e4 := ES.out
            omega
          have h1N' : (a : Int) + 1 < (N : Int) := by omega
          have hw1 : wrap64 ((a : Int) + 1) = (a : Int) + 1 := by have := HWA.out; rw [this]; push_cast; rfl
          have cw1 := HI.out.1.words (a + 1) h1N
          have HLx := hid (fun x : Later wr.heap.size wr => HL.out x.w (ws.getD (a + 1) 0) false (HI.out.1.keep x.h))
          unfold specMoved at HAt
          have hbH := heap_lt HI.out.1.blk
          have hbL := HI.out.1.blt
          generalize hx0 : ws.getD a 0 = x0 at *
          generalize hy0 : ws.getD (a + 1) 0 = y at *
          clear hx0 hy0 hb15 hmv h3 HSZ
          generalize sizeN x0 = n at *
          have v0 : ∀ x : Later wr.heap.size wr, x.w.cell? ⟨bH, 0, none⟩ = some (.slice (some ⟨b, off, none⟩) N cap) := fun x => x.cell hbH c0
          have v1 : ∀ x : Later wr.heap.size wr, x.w.cell? ⟨bH, 1, none⟩ = some (.int .i64 g1) := fun x => x.cell hbH c1
          have v2 : ∀ x : Later wr.heap.size wr, x.w.cell? ⟨bH, 2, none⟩ = some (.int .i64 g2) := fun x => x.cell hbH c2
          have v3 : ∀ x : Later wr.heap.size wr, x.w.cell? ⟨bH, 3, none⟩ = some (.int .i64 g3) := fun x => x.cell hbH c3
          have v4 : ∀ x : Later wr.heap.size wr, x.w.cell? ⟨bH, 4, none⟩ = some (.int .i64 g4) := fun x => x.cell hbH c4
          have v5 : ∀ x : Later wr.heap.size wr, x.w.cell? ⟨bH, 5, none⟩ = some (.int .i64 g5) := fun x => x.cell hbH c5
          have v6 : ∀ x : Later wr.heap.size wr, x.w.cell? ⟨bH, 6, none⟩ = some (.int .i64 g6) := fun x => x.cell hbH c6
          have v7 : ∀ x : Later wr.heap.size wr, x.w.cell? ⟨bH, 7, none⟩ = some (.int .i64 g7) := fun x => x.cell hbH c7
          have v8 : ∀ x : Later wr.heap.size wr, x.w.cell? ⟨bH, 8, none⟩ = some (.int .i64 g8) := fun x => x.cell hbH c8
          have v9 : ∀ x : Later wr.heap.size wr, x.w.cell? ⟨bH, 9, none⟩ = some (.int .i64 g9) := fun x => x.cell hbH c9
          have vw : ∀ x : Later wr.heap.size wr, x.w.cell? ⟨b, off + (a + 1), none⟩ = some (.int .i64 y) := fun x => x.cell hbL cw1
          clear cw1
          by_cases hi1 : g2 ≤ (a : Int)
          · by_cases hi2 : (a : Int) < g2 + g1
            · have hin1 : inZ ⟨g1, g2, g3, g4, g5, g6, g7, g8, g9⟩ a = true := by show decide _ = true; rw [decide_eq_true (show g2 ≤ (a : Int) ∧ (a : Int) < g2 + g1 from by omega)]
              have HIn1 := hid hin1
              clear hin1
              go_wp2_with (first | (go_at_call 65; refine (specSize_calls _ _).mono ?_; rintro e w2 ⟨rfl, rfl⟩; rw [ES.out]))
              refine wp_region_calm wr.heap.size (by kernel_rfl) (by kernel_rfl) ?_
              repeat (go_big_quiet_step (fail))
              refine wpQuiet_nil ?_
              rintro w5 ⟨x, rfl⟩
              have HBx := hid (HI.out.1.keep x.h)
              clear v0 v1 v2 v3 v4 v5 v6 v7 v8 v9 vw c0 c1 c2 c3 c4 c5 c6 c7 c8 c9 q0 cw
              go_wp2_with fail
              exact HRet.out _ x.w rfl (objs_false (by omega) HS0.out (HAt.out.trans (by rw [HIn1.out]; rfl))) HBx.out.below
            · have hd2 : decide ((a : Int) < g2 + g1) = false := decide_eq_false hi2
              have hnin : inZ ⟨g1, g2, g3, g4, g5, g6, g7, g8, g9⟩ a = false := by show decide _ = false; rw [decide_eq_false (show ¬ (g2 ≤ (a : Int) ∧ (a : Int) < g2 + g1) from by omega)]
              have HNin := hid hnin
              clear hnin
              cases hL : specLeads ws S ⟨g1, g2, g3, g4, g5, g6, g7, g8, g9⟩ y false with
              | false =>
                rw [hL] at HLx
                have HLf := hid hL
                clear hL
                go_wp2_with (first | (go_at_call 65; refine (specSize_calls _ _).mono ?_; rintro e w2 ⟨rfl, rfl⟩; rw [ES.out]))
                refine wp_region_calm wr.heap.size (by kernel_rfl) (by kernel_rfl) ?_
                repeat (go_big_quiet_step (first
                  | (rename_i x; go_at_call 66; refine (HLx.out x).mono ?_; rintro e w5 ⟨rfl, hb5⟩; exact ⟨rfl, ⟨w5, x.h.trans (hb5.mono x.h.size)⟩, rfl⟩)
                  | (rename_i x; go_at_call 37; refine (HTag.out _).mono ?_; rintro e w5 ⟨rfl, rfl⟩; exact ⟨rfl, x, rfl⟩)
                  | (rename_i x; go_at_call 54; refine (HNum.out _).mono ?_; rintro e w5 ⟨rfl, rfl⟩; exact ⟨rfl, x, rfl⟩)
                  | (rename_i x; go_at_call 65; refine (HSz.out _).mono ?_; rintro e w5 ⟨rfl, rfl⟩; exact ⟨rfl, x, rfl⟩)))
                refine wpQuiet_nil ?_
                rintro w5 ⟨x, rfl⟩
                have HBx := hid (HI.out.1.keep x.h)
                clear v0 v1 v2 v3 v4 v5 v6 v7 v8 v9 vw c0 c1 c2 c3 c4 c5 c6 c7 c8 c9 q0 cw
                go_wp2_with fail
                exact HRet.out _ x.w rfl (objs_false (by omega) HS0.out (HAt.out.trans (by rw [HLf.out, Bool.and_false]; rfl))) HBx.out.below
              | true =>
                rw [hL] at HLx
                have HLt := hid hL
                by_cases ht : y % 8 = 0
                · have HTag : Hid (∀ w, Calls Try.prog 37 #[.int .i64 y] w fun e w' => e = .returned (.int .i64 0) ∧ w = w') := fun w => by
                    have := specTag_calls y w
                    unfold tagZ at this
                    rw [ht] at this
                    exact this
                  have hkk : 0 ≤ y / 8 ∧ y / 8 < (ws.length : Int) := by
                    unfold specLeads at hL
                    rw [if_neg (by simpa using ht)] at hL
                    split at hL
                    · cases hL
                    · omega
                  have HTz := hid ht
                  clear hL ht
                  obtain ⟨k, hk⟩ := Int.eq_ofNat_of_zero_le hkk.1
                  have hkN : k < N := by have := HN.out; omega
                  have HKy := hid hk
                  have HNum : Hid (∀ w, Calls Try.prog 54 #[.int .i64 y] w fun e w' => e = .returned (.int .i64 (k : Int)) ∧ w = w') := fun w => by
                    have := specNum_calls y w
                    unfold numZ at this
                    rw [hk] at this
                    exact this
                  have cz := HI.out.1.words k hkN
                  have HSz := hid (fun w => specSize_calls (ws.getD k 0) w)
                  have hbb := HI.out.1.blt
                  have vz : ∀ x : Later wr.heap.size wr, x.w.cell? ⟨b, off + k, none⟩ = some (.int .i64 (ws.getD k 0)) := fun x => x.cell hbb cz
                  clear cz hkk hk hbb
                  have HZ : Hid ((ws.getD (y / 8).toNat 0) = ws.getD k 0) := by show _ = _; rw [HKy.out, Int.toNat_natCast]
                  generalize ws.getD k 0 = z at *
                  by_cases hsz : sizeZ z = sizeZ x0
                  · have HQ := hid hsz
                    rw [hsz, ES.out] at HSz
                    clear hsz
                    go_wp2_with (first | (go_at_call 65; refine (specSize_calls _ _).mono ?_; rintro e w2 ⟨rfl, rfl⟩; rw [ES.out]))
                    refine wp_region_calm wr.heap.size (by kernel_rfl) (by kernel_rfl) ?_
                    repeat (go_big_quiet_step (first
                      | (rename_i x; go_at_call 66; refine (HLx.out x).mono ?_; rintro e w5 ⟨rfl, hb5⟩; exact ⟨rfl, ⟨w5, x.h.trans (hb5.mono x.h.size)⟩, rfl⟩)
                      | (rename_i x; go_at_call 37; refine (HTag.out _).mono ?_; rintro e w5 ⟨rfl, rfl⟩; exact ⟨rfl, x, rfl⟩)
                      | (rename_i x; go_at_call 54; refine (HNum.out _).mono ?_; rintro e w5 ⟨rfl, rfl⟩; exact ⟨rfl, x, rfl⟩)
                      | (rename_i x; go_at_call 65; refine (HSz.out _).mono ?_; rintro e w5 ⟨rfl, rfl⟩; exact ⟨rfl, x, rfl⟩)))
                    refine wpQuiet_nil ?_
                    rintro w5 ⟨x, rfl⟩
                    have HBx := hid (HI.out.1.keep x.h)
                    clear vz v0 v1 v2 v3 v4 v5 v6 v7 v8 v9 vw c0 c1 c2 c3 c4 c5 c6 c7 c8 c9 q0 cw
                    go_wp2_with fail
                    refine wp_loop_rounds 1 ?_
                    rw [rounds_succ]
                    go_wp2_with fail
                    first | rw [HWA.out] | rw [show ((a : Int) + 1) = ((a + 1 : Nat) : Int) by push_cast; rfl]
                    exact ⟨⟨a + 1, rfl, HBx.out, by omega, fun k hk => by
                      by_cases hka : k < a
                      · exact HI.out.2.2 k hka
                      · rw [show k = a by omega]
                        exact Or.inr (HAt.out.trans (by rw [HNin.out, HLt.out, HTz.out, HZ.out, HQ.out]; simp))⟩, hs.out⟩
                  · have HQ := hid hsz
                    have hz1 : (sizeZ z == (n : Int)) = false := by rw [← ES.out]; simpa using hsz
                    have hz2 : ¬ sizeZ z = (n : Int) := by rw [← ES.out]; exact hsz
                    have hz3 : (sizeZ z != (n : Int)) = true := by rw [← ES.out]; simpa using hsz
                    have HF : Hid (specAt ws S ⟨g1, g2, g3, g4, g5, g6, g7, g8, g9⟩ a = false) := HAt.out.trans (by rw [HZ.out, decide_eq_false HQ.out, Bool.and_false])
                    clear hsz HQ HAt
                    generalize hmz : sizeZ z = mz at *
                    clear hmz
                    go_wp2_with (first | (go_at_call 65; refine (specSize_calls _ _).mono ?_; rintro e w2 ⟨rfl, rfl⟩; rw [ES.out]))
                    refine wp_region_calm wr.heap.size (by kernel_rfl) (by kernel_rfl) ?_
                    repeat (go_big_quiet_step (first
                      | (rename_i x; go_at_call 66; refine (HLx.out x).mono ?_; rintro e w5 ⟨rfl, hb5⟩; exact ⟨rfl, ⟨w5, x.h.trans (hb5.mono x.h.size)⟩, rfl⟩)
                      | (rename_i x; go_at_call 37; refine (HTag.out _).mono ?_; rintro e w5 ⟨rfl, rfl⟩; exact ⟨rfl, x, rfl⟩)
                      | (rename_i x; go_at_call 54; refine (HNum.out _).mono ?_; rintro e w5 ⟨rfl, rfl⟩; exact ⟨rfl, x, rfl⟩)
                      | (rename_i x; go_at_call 65; refine (HSz.out _).mono ?_; rintro e w5 ⟨rfl, rfl⟩; exact ⟨rfl, x, rfl⟩)))
                    refine wpQuiet_nil ?_
                    rintro w5 ⟨x, rfl⟩
                    have HBx := hid (HI.out.1.keep x.h)
                    clear vz v0 v1 v2 v3 v4 v5 v6 v7 v8 v9 vw c0 c1 c2 c3 c4 c5 c6 c7 c8 c9 q0 cw
                    go_wp2_with fail
                    exact HRet.out _ x.w rfl (objs_false (by omega) HS0.out HF.out) HBx.out.below
                · have ht0 : (tagZ y == 0) = false := by unfold tagZ; simpa using ht
                  have ht1 : ¬ tagZ y = 0 := ht
                  have ht2 : (tagZ y != 0) = true := by unfold tagZ; simpa using ht
                  have HTag := hid (fun w => specTag_calls y w)
                  have HTz := hid ht
                  clear hL ht
                  generalize tagZ y = t at *
                  go_wp2_with (first | (go_at_call 65; refine (specSize_calls _ _).mono ?_; rintro e w2 ⟨rfl, rfl⟩; rw [ES.out]))
                  refine wp_region_calm wr.heap.size (by kernel_rfl) (by kernel_rfl) ?_
                  repeat (go_big_quiet_step (first
                    | (rename_i x; go_at_call 66; refine (HLx.out x).mono ?_; rintro e w5 ⟨rfl, hb5⟩; exact ⟨rfl, ⟨w5, x.h.trans (hb5.mono x.h.size)⟩, rfl⟩)
                    | (rename_i x; go_at_call 37; refine (HTag.out _).mono ?_; rintro e w5 ⟨rfl, rfl⟩; exact ⟨rfl, x, rfl⟩)
                    | (rename_i x; go_at_call 54; refine (HNum.out _).mono ?_; rintro e w5 ⟨rfl, rfl⟩; exact ⟨rfl, x, rfl⟩)
                    | (rename_i x; go_at_call 65; refine (HSz.out _).mono ?_; rintro e w5 ⟨rfl, rfl⟩; exact ⟨rfl, x, rfl⟩)))
                  refine wpQuiet_nil ?_
                  rintro w5 ⟨x, rfl⟩
                  have HBx := hid (HI.out.1.keep x.h)
                  clear v0 v1 v2 v3 v4 v5 v6 v7 v8 v9 vw c0 c1 c2 c3 c4 c5 c6 c7 c8 c9 q0 cw
                  go_wp2_with fail
                  exact HRet.out _ x.w rfl (objs_false (by omega) HS0.out (HAt.out.trans (by rw [decide_eq_false HTz.out, Bool.and_false, Bool.false_and]))) HBx.out.below
          · have hnin : inZ ⟨g1, g2, g3, g4, g5, g6, g7, g8, g9⟩ a = false := by show decide _ = false; rw [decide_eq_false (show ¬ (g2 ≤ (a : Int) ∧ (a : Int) < g2 + g1) from by omega)]
            have HNin := hid hnin
            clear hnin
            cases hL : specLeads ws S ⟨g1, g2, g3, g4, g5, g6, g7, g8, g9⟩ y false with
            | false =>
              rw [hL] at HLx
              have HLf := hid hL
              clear hL
              go_wp2_with (first | (go_at_call 65; refine (specSize_calls _ _).mono ?_; rintro e w2 ⟨rfl, rfl⟩; rw [ES.out]))
              refine wp_region_calm wr.heap.size (by kernel_rfl) (by kernel_rfl) ?_
              repeat (go_big_quiet_step (first
                | (rename_i x; go_at_call 66; refine (HLx.out x).mono ?_; rintro e w5 ⟨rfl, hb5⟩; exact ⟨rfl, ⟨w5, x.h.trans (hb5.mono x.h.size)⟩, rfl⟩)
                | (rename_i x; go_at_call 37; refine (HTag.out _).mono ?_; rintro e w5 ⟨rfl, rfl⟩; exact ⟨rfl, x, rfl⟩)
                | (rename_i x; go_at_call 54; refine (HNum.out _).mono ?_; rintro e w5 ⟨rfl, rfl⟩; exact ⟨rfl, x, rfl⟩)
                | (rename_i x; go_at_call 65; refine (HSz.out _).mono ?_; rintro e w5 ⟨rfl, rfl⟩; exact ⟨rfl, x, rfl⟩)))
              refine wpQuiet_nil ?_
              rintro w5 ⟨x, rfl⟩
              have HBx := hid (HI.out.1.keep x.h)
              clear v0 v1 v2 v3 v4 v5 v6 v7 v8 v9 vw c0 c1 c2 c3 c4 c5 c6 c7 c8 c9 q0 cw
              go_wp2_with fail
              exact HRet.out _ x.w rfl (objs_false (by omega) HS0.out (HAt.out.trans (by rw [HLf.out, Bool.and_false]; rfl))) HBx.out.below
            | true =>
              rw [hL] at HLx
              have HLt := hid hL
              by_cases ht : y % 8 = 0
              · have HTag : Hid (∀ w, Calls Try.prog 37 #[.int .i64 y] w fun e w' => e = .returned (.int .i64 0) ∧ w = w') := fun w => by
                  have := specTag_calls y w
                  unfold tagZ at this
                  rw [ht] at this
                  exact this
                have hkk : 0 ≤ y / 8 ∧ y / 8 < (ws.length : Int) := by
                  unfold specLeads at hL
                  rw [if_neg (by simpa using ht)] at hL
                  split at hL
                  · cases hL
                  · omega
                have HTz := hid ht
                clear hL ht
                obtain ⟨k, hk⟩ := Int.eq_ofNat_of_zero_le hkk.1
                have hkN : k < N := by have := HN.out; omega
                have HKy := hid hk
                have HNum : Hid (∀ w, Calls Try.prog 54 #[.int .i64 y] w fun e w' => e = .returned (.int .i64 (k : Int)) ∧ w = w') := fun w => by
                  have := specNum_calls y w
                  unfold numZ at this
                  rw [hk] at this
                  exact this
                have cz := HI.out.1.words k hkN
                have HSz := hid (fun w => specSize_calls (ws.getD k 0) w)
                have hbb := HI.out.1.blt
                have vz : ∀ x : Later wr.heap.size wr, x.w.cell? ⟨b, off + k, none⟩ = some (.int .i64 (ws.getD k 0)) := fun x => x.cell hbb cz
                clear cz hkk hk hbb
                have HZ : Hid ((ws.getD (y / 8).toNat 0) = ws.getD k 0) := by show _ = _; rw [HKy.out, Int.toNat_natCast]
                generalize ws.getD k 0 = z at *
                by_cases hsz : sizeZ z = sizeZ x0
                · have HQ := hid hsz
                  rw [hsz, ES.out] at HSz
                  clear hsz
                  go_wp2_with (first | (go_at_call 65; refine (specSize_calls _ _).mono ?_; rintro e w2 ⟨rfl, rfl⟩; rw [ES.out]))
                  refine wp_region_calm wr.heap.size (by kernel_rfl) (by kernel_rfl) ?_
                  repeat (go_big_quiet_step (first
                    | (rename_i x; go_at_call 66; refine (HLx.out x).mono ?_; rintro e w5 ⟨rfl, hb5⟩; exact ⟨rfl, ⟨w5, x.h.trans (hb5.mono x.h.size)⟩, rfl⟩)
                    | (rename_i x; go_at_call 37; refine (HTag.out _).mono ?_; rintro e w5 ⟨rfl, rfl⟩; exact ⟨rfl, x, rfl⟩)
                    | (rename_i x; go_at_call 54; refine (HNum.out _).mono ?_; rintro e w5 ⟨rfl, rfl⟩; exact ⟨rfl, x, rfl⟩)
                    | (rename_i x; go_at_call 65; refine (HSz.out _).mono ?_; rintro e w5 ⟨rfl, rfl⟩; exact ⟨rfl, x, rfl⟩)))
                  refine wpQuiet_nil ?_
                  rintro w5 ⟨x, rfl⟩
                  have HBx := hid (HI.out.1.keep x.h)
                  clear vz v0 v1 v2 v3 v4 v5 v6 v7 v8 v9 vw c0 c1 c2 c3 c4 c5 c6 c7 c8 c9 q0 cw
                  go_wp2_with fail
                  refine wp_loop_rounds 1 ?_
                  rw [rounds_succ]
                  go_wp2_with fail
                  first | rw [HWA.out] | rw [show ((a : Int) + 1) = ((a + 1 : Nat) : Int) by push_cast; rfl]
                  exact ⟨⟨a + 1, rfl, HBx.out, by omega, fun k hk => by
                    by_cases hka : k < a
                    · exact HI.out.2.2 k hka
                    · rw [show k = a by omega]
                      exact Or.inr (HAt.out.trans (by rw [HNin.out, HLt.out, HTz.out, HZ.out, HQ.out]; simp))⟩, hs.out⟩
                · have HQ := hid hsz
                  have hz1 : (sizeZ z == (n : Int)) = false := by rw [← ES.out]; simpa using hsz
                  have hz2 : ¬ sizeZ z = (n : Int) := by rw [← ES.out]; exact hsz
                  have hz3 : (sizeZ z != (n : Int)) = true := by rw [← ES.out]; simpa using hsz
                  have HF : Hid (specAt ws S ⟨g1, g2, g3, g4, g5, g6, g7, g8, g9⟩ a = false) := HAt.out.trans (by rw [HZ.out, decide_eq_false HQ.out, Bool.and_false])
                  clear hsz HQ HAt
                  generalize hmz : sizeZ z = mz at *
                  clear hmz
                  go_wp2_with (first | (go_at_call 65; refine (specSize_calls _ _).mono ?_; rintro e w2 ⟨rfl, rfl⟩; rw [ES.out]))
                  refine wp_region_calm wr.heap.size (by kernel_rfl) (by kernel_rfl) ?_
                  repeat (go_big_quiet_step (first
                    | (rename_i x; go_at_call 66; refine (HLx.out x).mono ?_; rintro e w5 ⟨rfl, hb5⟩; exact ⟨rfl, ⟨w5, x.h.trans (hb5.mono x.h.size)⟩, rfl⟩)
                    | (rename_i x; go_at_call 37; refine (HTag.out _).mono ?_; rintro e w5 ⟨rfl, rfl⟩; exact ⟨rfl, x, rfl⟩)
                    | (rename_i x; go_at_call 54; refine (HNum.out _).mono ?_; rintro e w5 ⟨rfl, rfl⟩; exact ⟨rfl, x, rfl⟩)
                    | (rename_i x; go_at_call 65; refine (HSz.out _).mono ?_; rintro e w5 ⟨rfl, rfl⟩; exact ⟨rfl, x, rfl⟩)))
                  refine wpQuiet_nil ?_
                  rintro w5 ⟨x, rfl⟩
                  have HBx := hid (HI.out.1.keep x.h)
                  clear vz v0 v1 v2 v3 v4 v5 v6 v7 v8 v9 vw c0 c1 c2 c3 c4 c5 c6 c7 c8 c9 q0 cw
                  go_wp2_with fail
                  exact HRet.out _ x.w rfl (objs_false (by omega) HS0.out HF.out) HBx.out.below
              · have ht0 : (tagZ y == 0) = false := by unfold tagZ; simpa using ht
                have ht1 : ¬ tagZ y = 0 := ht
                have ht2 : (tagZ y != 0) = true := by unfold tagZ; simpa using ht
                have HTag := hid (fun w => specTag_calls y w)
                have HTz := hid ht
                clear hL ht
                generalize tagZ y = t at *
                go_wp2_with (first | (go_at_call 65; refine (specSize_calls _ _).mono ?_; rintro e w2 ⟨rfl, rfl⟩; rw [ES.out]))
                refine wp_region_calm wr.heap.size (by kernel_rfl) (by kernel_rfl) ?_
                repeat (go_big_quiet_step (first
                  | (rename_i x; go_at_call 66; refine (HLx.out x).mono ?_; rintro e w5 ⟨rfl, hb5⟩; exact ⟨rfl, ⟨w5, x.h.trans (hb5.mono x.h.size)⟩, rfl⟩)
                  | (rename_i x; go_at_call 37; refine (HTag.out _).mono ?_; rintro e w5 ⟨rfl, rfl⟩; exact ⟨rfl, x, rfl⟩)
                  | (rename_i x; go_at_call 54; refine (HNum.out _).mono ?_; rintro e w5 ⟨rfl, rfl⟩; exact ⟨rfl, x, rfl⟩)
                  | (rename_i x; go_at_call 65; refine (HSz.out _).mono ?_; rintro e w5 ⟨rfl, rfl⟩; exact ⟨rfl, x, rfl⟩)))
                refine wpQuiet_nil ?_
                rintro w5 ⟨x, rfl⟩
                have HBx := hid (HI.out.1.keep x.h)
                clear v0 v1 v2 v3 v4 v5 v6 v7 v8 v9 vw c0 c1 c2 c3 c4 c5 c6 c7 c8 c9 q0 cw
                go_wp2_with fail
                exact HRet.out _ x.w rfl (objs_false (by omega) HS0.out (HAt.out.trans (by rw [decide_eq_false HTz.out, Bool.and_false, Bool.false_and]))) HBx.out.below
        · have hbm : (bits .and .i64 (ws.getD a 0) 15 == 15) = false := by rw [hb15]; simpa using hmv
          have HAt : Hid (specAt ws S ⟨g1, g2, g3, g4, g5, g6, g7, g8, g9⟩ a = (List.range (sizeN (ws.getD a 0) - 1)).all (fun i => specLeads ws S ⟨g1, g2, g3, g4, g5, g6, g7, g8, g9⟩ (ws.getD (a + (i + 1)) 0) (oldZ ⟨g1, g2, g3, g4, g5, g6, g7, g8, g9⟩ a))) := if_neg hmv
          clear hb15 hmv h3 HSZ
          generalize hx : ws.getD a 0 = x at *
          clear hx
          generalize sizeN x = n at *
          by_cases hi1 : g2 ≤ (a : Int)
          · by_cases hi2 : (a : Int) < g2 + g1
            · go_wp2_with (first | (go_at_call 65; refine (specSize_calls _ _).mono ?_; rintro e w2 ⟨rfl, rfl⟩; rw [ES.out]))
              refine wp_region_calm wr.heap.size (by kernel_rfl) (by kernel_rfl) ?_
              repeat (go_big_quiet_step (fail))
              refine wpQuiet_nil ?_
              rintro w5 ⟨x, rfl⟩
              have HBx := hid (HI.out.1.keep x.h)
              clear c0 c1 c2 c3 c4 c5 c6 c7 c8 c9 q0 cw
              go_wp2_with fail
              refine specInner b off cap gb gcap bH N a n ws S ⟨g1, g2, g3, g4, g5, g6, g7, g8, g9⟩ true (by show _ = decide _; rw [decide_eq_true (show g2 ≤ (a : Int) ∧ (a : Int) < g2 + g1 from by omega)]) w x.w HN.out HO.out (by rw [← HN.out]; exact HIN.out) HBx.out _ _ _ _ _ _ _ _ _ _ _ _ _ _ _ _ _ _ _ _ _ _ _ _ _ _ _ _ _ _ _ _ _ _ _ _ _ _ _ _ _ _ _ _ _ _ _ _ _ _ _ _ _ _ _ _ _ _ _ _ _ _ _ _ _ _ _ _ _ _ _ _ _ _ _ _ _ _ _ _ _ _ _ _ _ _ _ _ _ _ _ _ _ _ _ _ _ _ _ _ _ _ _ _ _ _ _ _ _ _ _ _ _ _ _ _ _ _ _ _ _ _ _ _ _ _ _ _ _ _ _ _ _ _ _ _ _ _ _ _ _ _ _ _ _ _ _ _ _ _ _ _ _ _ _ _ _ _ _ _ _ _ _ _ _ _ _ _ _ _ _ _ _ _ _ _ _ _ _ _ _ _ _ _ _ _ _ _ _ _ _ _ _ _ _ _ _ _ _ _ _ _ _ _ _ _ _ _ _ _ _ _ _ _ _ _ _ _ _ _ _ _ _ _ _ _ _ _ _ _ _ _ _ _ _ ?_ ?_
              · intro tmps w' h1 h2 h3
                simp only [Exit.inBlock, Exit.then]
                exact HRet.out tmps w' h1 (objs_false (by omega) HS0.out (HAt.out.trans h2)) h3
              · intro d2 d10 d11 d206 d207 d208 d209 d210 d211 d212 d213 d214 d215 d216 d217 d218 d219 d220 d221 d222 d223 d224 d225 d226 d227 d228 d229 d230 d231 d232 d233 d234 d235 d236 d237 d238 d239 d240 w' hall hB'
                have HBy := hid hB'
                have HAll := hid hall
                clear hB' hall
                go_wp2_with fail
                first | rw [HWA.out] | rw [show ((a : Int) + 1) = ((a + 1 : Nat) : Int) by push_cast; rfl]
                exact ⟨⟨a + 1, rfl, HBy.out, by omega, fun k hk => by
                  by_cases hka : k < a
                  · exact HI.out.2.2 k hka
                  · rw [show k = a by omega]
                    exact Or.inr (HAt.out.trans HAll.out)⟩, hs.out⟩

            · go_wp2_with (first | (go_at_call 65; refine (specSize_calls _ _).mono ?_; rintro e w2 ⟨rfl, rfl⟩; rw [ES.out]))
              refine wp_region_calm wr.heap.size (by kernel_rfl) (by kernel_rfl) ?_
              repeat (go_big_quiet_step (fail))
              refine wpQuiet_nil ?_
              rintro w5 ⟨x, rfl⟩
              have HBx := hid (HI.out.1.keep x.h)
              clear c0 c1 c2 c3 c4 c5 c6 c7 c8 c9 q0 cw
              go_wp2_with fail
              refine specInner b off cap gb gcap bH N a n ws S ⟨g1, g2, g3, g4, g5, g6, g7, g8, g9⟩ false (by show _ = decide _; rw [decide_eq_false (show ¬ (g2 ≤ (a : Int) ∧ (a : Int) < g2 + g1) from by omega)]) w x.w HN.out HO.out (by rw [← HN.out]; exact HIN.out) HBx.out _ _ _ _ _ _ _ _ _ _ _ _ _ _ _ _ _ _ _ _ _ _ _ _ _ _ _ _ _ _ _ _ _ _ _ _ _ _ _ _ _ _ _ _ _ _ _ _ _ _ _ _ _ _ _ _ _ _ _ _ _ _ _ _ _ _ _ _ _ _ _ _ _ _ _ _ _ _ _ _ _ _ _ _ _ _ _ _ _ _ _ _ _ _ _ _ _ _ _ _ _ _ _ _ _ _ _ _ _ _ _ _ _ _ _ _ _ _ _ _ _ _ _ _ _ _ _ _ _ _ _ _ _ _ _ _ _ _ _ _ _ _ _ _ _ _ _ _ _ _ _ _ _ _ _ _ _ _ _ _ _ _ _ _ _ _ _ _ _ _ _ _ _ _ _ _ _ _ _ _ _ _ _ _ _ _ _ _ _ _ _ _ _ _ _ _ _ _ _ _ _ _ _ _ _ _ _ _ _ _ _ _ _ _ _ _ _ _ _ _ _ _ _ _ _ _ _ _ _ _ _ _ _ _ _ ?_ ?_
              · intro tmps w' h1 h2 h3
                simp only [Exit.inBlock, Exit.then]
                exact HRet.out tmps w' h1 (objs_false (by omega) HS0.out (HAt.out.trans h2)) h3
              · intro d2 d10 d11 d206 d207 d208 d209 d210 d211 d212 d213 d214 d215 d216 d217 d218 d219 d220 d221 d222 d223 d224 d225 d226 d227 d228 d229 d230 d231 d232 d233 d234 d235 d236 d237 d238 d239 d240 w' hall hB'
                have HBy := hid hB'
                have HAll := hid hall
                clear hB' hall
                go_wp2_with fail
                first | rw [HWA.out] | rw [show ((a : Int) + 1) = ((a + 1 : Nat) : Int) by push_cast; rfl]
                exact ⟨⟨a + 1, rfl, HBy.out, by omega, fun k hk => by
                  by_cases hka : k < a
                  · exact HI.out.2.2 k hka
                  · rw [show k = a by omega]
                    exact Or.inr (HAt.out.trans HAll.out)⟩, hs.out⟩

          · go_wp2_with (first | (go_at_call 65; refine (specSize_calls _ _).mono ?_; rintro e w2 ⟨rfl, rfl⟩; rw [ES.out]))
            refine wp_region_calm wr.heap.size (by kernel_rfl) (by kernel_rfl) ?_
            repeat (go_big_quiet_step (fail))
            refine wpQuiet_nil ?_
            rintro w5 ⟨x, rfl⟩
            have HBx := hid (HI.out.1.keep x.h)
            clear c0 c1 c2 c3 c4 c5 c6 c7 c8 c9 q0 cw
            go_wp2_with fail
            refine specInner b off cap gb gcap bH N a n ws S ⟨g1, g2, g3, g4, g5, g6, g7, g8, g9⟩ false (by show _ = decide _; rw [decide_eq_false (show ¬ (g2 ≤ (a : Int) ∧ (a : Int) < g2 + g1) from by omega)]) w x.w HN.out HO.out (by rw [← HN.out]; exact HIN.out) HBx.out _ _ _ _ _ _ _ _ _ _ _ _ _ _ _ _ _ _ _ _ _ _ _ _ _ _ _ _ _ _ _ _ _ _ _ _ _ _ _ _ _ _ _ _ _ _ _ _ _ _ _ _ _ _ _ _ _ _ _ _ _ _ _ _ _ _ _ _ _ _ _ _ _ _ _ _ _ _ _ _ _ _ _ _ _ _ _ _ _ _ _ _ _ _ _ _ _ _ _ _ _ _ _ _ _ _ _ _ _ _ _ _ _ _ _ _ _ _ _ _ _ _ _ _ _ _ _ _ _ _ _ _ _ _ _ _ _ _ _ _ _ _ _ _ _ _ _ _ _ _ _ _ _ _ _ _ _ _ _ _ _ _ _ _ _ _ _ _ _ _ _ _ _ _ _ _ _ _ _ _ _ _ _ _ _ _ _ _ _ _ _ _ _ _ _ _ _ _ _ _ _ _ _ _ _ _ _ _ _ _ _ _ _ _ _ _ _ _ _ _ _ _ _ _ _ _ _ _ _ _ _ _ _ _ _ ?_ ?_
            · intro tmps w' h1 h2 h3
              simp only [Exit.inBlock, Exit.then]
              exact HRet.out tmps w' h1 (objs_false (by omega) HS0.out (HAt.out.trans h2)) h3
            · intro d2 d10 d11 d206 d207 d208 d209 d210 d211 d212 d213 d214 d215 d216 d217 d218 d219 d220 d221 d222 d223 d224 d225 d226 d227 d228 d229 d230 d231 d232 d233 d234 d235 d236 d237 d238 d239 d240 w' hall hB'
              have HBy := hid hB'
              have HAll := hid hall
              clear hB' hall
              go_wp2_with fail
              first | rw [HWA.out] | rw [show ((a : Int) + 1) = ((a + 1 : Nat) : Int) by push_cast; rfl]
              exact ⟨⟨a + 1, rfl, HBy.out, by omega, fun k hk => by
                by_cases hka : k < a
                · exact HI.out.2.2 k hka
                · rw [show k = a by omega]
                  exact Or.inr (HAt.out.trans HAll.out)⟩, hs.out⟩

    · go_wp2_with fail
      exact HExit.out _ _ _ _ _ _ _ _ _ _ _ _ _ _ _ _ _ _ _ _ _ _ _ _ _ _ _ _ _ _ _ _ _ _ _ _ _ _ _ _ _ _ _ _ _ _ _ _ _ _ _ _ _ _ _ _ _ _ _ _ _ _ _ _ _ _ _ _ _ _ _ _ _ _ _ _ _ _ _ _ _ _ _ _ _ _ _ _ _ _ _ _ _ _ _ _ _ _ _ _ _ _ _ _ _ _ _ _ _ _ _ _ _ _ _ _ _ _ _ _ _ _ _ _ _ _ _ _ _ _ _ _ _ _ _ _ _ _ _ _ _ _ _ _ _ _ _ _ _ _ _ _ _ _ _ _ _ _ _ _ _ _ _ _ _ _ _ _ _ _ _ _ _ _ _ _ _ _ _ _ _ _ _ _ _ _ _ _ _ _ _ _ _ _ _ _ _ _ _ _ _ _ _ _ _ _ _ _ _ _ _ _ _ _ _ _ _ _ _ _ _ _ _ _ _ _ _ _ _ _ _ _ _ _ _ _ _ _ _ _ _ wr (objs_true (fun k hk => HI.out.2.2 k (by omega))) HI.out.1.below
end Go.Proofs.Ytebpgglegnljgaa

namespace Go.Proofs.Ytebpgglegnljgaa
open Go.RowKit

theorem zeros_noted (ws : List Int) : Noted ws (List.replicate ws.length 0) := by
  refine ⟨by simp, fun a ha => absurd ?_ ha⟩
  simp only [List.getD, List.getElem?_replicate]
  split <;> rfl

theorem specLay_noted {ws S : List Int} {h : HpN} {N : Nat} (hN : ws.length = N) (ho : Ordered h N) (hs : specLay ws h = some S) : Noted ws S := by
  obtain ⟨o1, o2, o3, o4, o5, o6, o7, o8, o9, o10, o11, o12, o13⟩ := ho
  unfold specLay at hs
  cases h1 : lay ws h.to.toNat h.bottom.toNat (List.replicate ws.length 0) with
  | none =>
    rw [h1] at hs
    cases hs
  | some S1 =>
    rw [h1] at hs
    have n1 := lay_noted (by omega) (zeros_noted ws) h1
    dsimp only at hs
    cases h2 : lay ws h.top.toNat (h.to + h.size).toNat S1 with
    | none =>
      rw [h2] at hs
      cases hs
    | some S2 =>
      rw [h2] at hs
      have n2 := lay_noted (by omega) n1 h2
      dsimp only at hs
      split at hs
      · cases h3 : lay ws (h.size - h.to).toNat h.fb.toNat S2 with
        | none =>
          rw [h3] at hs
          cases hs
        | some S3 =>
          rw [h3] at hs
          have n3 := lay_noted (by omega) n2 h3
          exact lay_noted (by omega) n3 hs
      · cases hs
        exact n2

set_option maxHeartbeats 8000000 in
set_option maxRecDepth 1000000 in
theorem specOk_calls (b off cap N : Nat) (ws : List Int) (h : HpN) (w : World) (hN : ws.length = N) (ho : Ordered h N)
    (hb : b < w.heap.size) (hw : ∀ k, k < N → w.cell? ⟨b, off + k, none⟩ = some (.int .i64 (ws.getD k 0))) :
    Calls Try.prog 35 #[heapV (.slice (some ⟨b, off, none⟩) N cap) h] w fun e w' => e = .returned (.bool (specOk ws h)) ∧ Below w.heap.size w w' := by
  have HO := hid ho
  have HW := hid hw
  have hR : specOk ws h = match specLay ws h with
    | none => false
    | some S => !(decide (h.scan < h.bottom) && S.getD h.scan.toNat 0 == 0) && specObjs ws S h N := by rw [← hN]; rfl
  have HR := hid hR
  generalize specOk ws h = R at *
  have HG := hid (fun (w : World) hb hw => specBegins_calls b off cap N ws h w hN ho hb hw)
  have HLen := hid hN
  obtain ⟨o1, o2, o3, o4, o5, o6, o7, o8, o9, o10, o11, o12, o13⟩ := ho
  obtain ⟨g1, g2, g3, g4, g5, g6, g7, g8, g9⟩ := h
  unfold heapV at *
  dsimp only at *
  clear hw hR hN
  rcases o4 with rfl | hto
  · simp only [Int.zero_add, Int.sub_zero] at o10 o11 o13
    have O7 := hid o7
    have O8 := hid o8
    have O9 := hid o9
    have O10 := hid o10
    have O11 := hid o11
    have O12 := hid o12
    have O13 := hid o13
    clear o7 o8 o9 o10 o11 o12 o13
    go_enter Try.func35, Try.ntmps35
    go_wp2_with fail
    refine (specFrom_calls _ ⟨_, _, g3, g4, g5, g6, g7, g8, g9⟩ _ (by dsimp only; omega) (by dsimp only; omega) (by dsimp only; omega) (by dsimp only; omega)).mono ?_
    rintro e W1 ⟨rfl, hb1⟩
    obtain ⟨eA, hbw⟩ := one_kept hb1
    obtain ⟨c0, c1, c2, c3, c4, c5, c6, c7, c8, c9⟩ := HeapBlk.cells (h := ⟨_, _, g3, g4, g5, g6, g7, g8, g9⟩) eA
    dsimp only at c0 c1 c2 c3 c4 c5 c6 c7 c8 c9
    have HBW := hid hbw
    have HK := hid (show HeapBlk W1 w.heap.size _ ⟨g1, 0, g3, g4, g5, g6, g7, g8, g9⟩ from eA)
    clear hb1 hbw eA o3 o5 o6
    have o7 := O7.out
    have o8 := O8.out
    have o9 := O9.out
    have o10 := O10.out
    have o11 := O11.out
    have o12 := O12.out
    have o13 := O13.out
    go_wp2_with fail
    clear o7 o8 o9 o10 o11 o12 o13
    refine (HG.out _ (Nat.lt_of_lt_of_le hb HBW.out.size) (fun k hk => (HBW.out.cell (p := ⟨b, off + k, none⟩) hb).trans (HW.out k hk))).mono ?_
    rintro e W2 ⟨⟨gb, gcap, ok, rfl, hlow, hgl, hres⟩, hb2⟩
    obtain ⟨d0, d1, d2, d3, d4, d5, d6, d7, d8, d9⟩ := HeapBlk.cells (h := ⟨g1, 0, g3, g4, g5, g6, g7, g8, g9⟩) (HeapBlk.below HK.out hb2)
    dsimp only at d0 d1 d2 d3 d4 d5 d6 d7 d8 d9
    clear c0 c1 c2 c3 c4 c5 c6 c7 c8 c9
    rcases hres with ⟨hn, rfl⟩ | ⟨S, hS, rfl, hSl, hSr⟩
    · have HBW2 := hid (HBW.out.trans (hb2.mono HBW.out.size))
      have HX : Hid (R = false) := HR.out.trans (by rw [hn])
      clear hb2
      go_wp2_with fail
      go_ret
      exact ⟨by rw [HX.out]; rfl, HBW2.out⟩
    · have HX : Hid (R = (!(decide (g5 < g3) && S.getD g5.toNat 0 == 0) && specObjs ws S ⟨g1, 0, g3, g4, g5, g6, g7, g8, g9⟩ N)) := HR.out.trans (by rw [hS])
      have HB : Hid (BSt w b off w.heap.size gb N ws (.slice (some ⟨b, off, none⟩) N cap) ⟨g1, 0, g3, g4, g5, g6, g7, g8, g9⟩ S W2) :=
        ⟨Nat.lt_of_lt_of_le hb (HBW.out.trans (hb2.mono HBW.out.size)).size, fun k hk => ((HBW.out.trans (hb2.mono HBW.out.size)).cell (p := ⟨b, off + k, none⟩) hb).trans (HW.out k hk), HeapBlk.below HK.out hb2, hSl, hSr, by have := HBW.out.size; omega, by have := heap_lt HK.out; omega, by have := HBW.out.size; omega, HBW.out.trans (hb2.mono HBW.out.size)⟩
      have HSome := hid hS
      clear HBW HK HW HR HG hb2 hS hSl hSr hlow hgl
      by_cases hsc : g5 < g3
      · obtain ⟨sc, hsc5⟩ := Int.eq_ofNat_of_zero_le (show 0 ≤ g5 by have := O7.out; omega)
        have hscN : sc < N := by obtain ⟨o1, o2, o3, o4, o5, o6, o7, o8, o9, o10, o11, o12, o13⟩ := HO.out; dsimp only at *; omega
        have q0 := HB.out.row.cell (i := sc) hscN
        unfold boolCells at q0
        rw [hsc5, Int.toNat_natCast, ← hsc5, decide_eq_true hsc, Bool.true_and] at HX
        subst hsc5
        cases hz : (S.getD sc 0 != 0)
        · rw [hz] at q0
          have hz0 : (S.getD sc 0 == 0) = true := by simpa using hz
          rw [hz0] at HX
          go_wp2_with fail
          go_ret
          exact ⟨by rw [HX.out]; rfl, HB.out.below⟩
        · rw [hz] at q0
          have hz0 : (S.getD sc 0 == 0) = false := by simpa using hz
          rw [hz0] at HX
          clear hz0 hz
          go_wp2_with fail
          refine specLoop b off cap gb gcap w.heap.size N ws S ⟨g1, 0, g3, g4, (sc : Int), g6, g7, g8, g9⟩ w W2 HLen.out HO.out (specLay_noted HLen.out HO.out HSome.out) HB.out _ ?_ ?_ _ _ _ _ _ _ _ _ _ _ _ _ _ _ _ _ _ _ _ _ _ _ _ _ _ _ _ _ _ _ _ _ _ _ _ _ _ _ _ _ _ _ _ _ _ _ _ _ _ _ _ _ _ _ _ _ _ _ _ _ _ _ _ _ _ _ _ _ _ _ _ _ _ _ _ _ _ _ _ _ _ _ _ _ _ _ _ _ _ _ _ _ _ _ _ _ _ _ _ _ _ _ _ _ _ _ _ _ _ _ _ _ _ _ _ _ _ _ _ _ _ _ _ _ _ _ _ _ _ _ _ _ _ _ _ _ _ _ _ _ _ _ _ _ _ _ _ _ _ _ _ _ _ _ _ _ _ _ _ _ _ _ _ _ _ _ _ _ _ _ _ _ _ _ _ _ _ _ _ _ _ _ _ _ _ _ _ _ _ _ _ _ _ _ _ _ _ _ _ _ _ _ _ _ _ _ _ _ _ _ _ _ _ _ _ _ _ _ _ _ _ _ _ _ _ _ _ _ _ _ _ _ _ _ _ _ _ _
          · intro tmps w' h1 h2 h3
            simp only [Exit.inBlock, Exit.then]
            exact bodyPost_ret (results_tmp (fn := Try.f35) rfl _ _ _) rfl ⟨by rw [h1, HX.out, h2]; simp, h3⟩
          · intro d0 d1 d2 d3 d4 d5 d6 d7 d8 d9 d10 d11 d12 d13 d14 d15 d16 d17 d18 d19 d20 d21 d22 d23 d24 d25 d26 d27 d28 d29 d30 d31 d32 d33 d34 d35 d36 d37 d38 d39 d40 d41 d42 d43 d44 d45 d46 d47 d48 d49 d50 d51 d52 d53 d54 d55 d56 d57 d58 d59 d60 d61 d62 d63 d64 d65 d66 d67 d68 d69 d70 d71 d72 d73 d74 d75 d76 d77 d78 d79 d80 d81 d82 d83 d84 d85 d86 d87 d88 d89 d90 d91 d92 d93 d94 d95 d96 d97 d98 d99 d100 d101 d102 d103 d104 d105 d106 d107 d108 d109 d110 d111 d112 d113 d114 d115 d116 d117 d118 d119 d120 d121 d122 d123 d124 d125 d126 d127 d128 d129 d130 d131 d132 d133 d134 d135 d136 d137 d138 d139 d140 d141 d142 d143 d144 d145 d146 d147 d148 d149 d150 d151 d152 d153 d154 d155 d156 d157 d158 d159 d160 d161 d162 d163 d164 d165 d166 d167 d168 d169 d170 d171 d172 d173 d174 d175 d176 d177 d178 d179 d180 d181 d182 d183 d184 d185 d186 d187 d188 d189 d190 d191 d192 d193 d194 d195 d196 d197 d198 d199 d200 d201 d202 d203 d204 d205 d206 d207 d208 d209 d210 d211 d212 d213 d214 d215 d216 d217 d218 d219 d220 d221 d222 d223 d224 d225 d226 d227 d228 d229 d230 d231 d232 d233 d234 d235 d236 d237 d238 d239 d240 w' hall hbl
            have HAll := hid hall
            have HBl := hid hbl
            clear hall hbl
            go_wp2_with fail
            go_ret
            exact ⟨by rw [HX.out, HAll.out]; simp, HBl.out⟩
      · rw [decide_eq_false hsc, Bool.false_and] at HX
        go_wp2_with fail
        refine specLoop b off cap gb gcap w.heap.size N ws S ⟨g1, 0, g3, g4, g5, g6, g7, g8, g9⟩ w W2 HLen.out HO.out (specLay_noted HLen.out HO.out HSome.out) HB.out _ ?_ ?_ _ _ _ _ _ _ _ _ _ _ _ _ _ _ _ _ _ _ _ _ _ _ _ _ _ _ _ _ _ _ _ _ _ _ _ _ _ _ _ _ _ _ _ _ _ _ _ _ _ _ _ _ _ _ _ _ _ _ _ _ _ _ _ _ _ _ _ _ _ _ _ _ _ _ _ _ _ _ _ _ _ _ _ _ _ _ _ _ _ _ _ _ _ _ _ _ _ _ _ _ _ _ _ _ _ _ _ _ _ _ _ _ _ _ _ _ _ _ _ _ _ _ _ _ _ _ _ _ _ _ _ _ _ _ _ _ _ _ _ _ _ _ _ _ _ _ _ _ _ _ _ _ _ _ _ _ _ _ _ _ _ _ _ _ _ _ _ _ _ _ _ _ _ _ _ _ _ _ _ _ _ _ _ _ _ _ _ _ _ _ _ _ _ _ _ _ _ _ _ _ _ _ _ _ _ _ _ _ _ _ _ _ _ _ _ _ _ _ _ _ _ _ _ _ _ _ _ _ _ _ _ _ _ _ _ _ _ _
        · intro tmps w' h1 h2 h3
          simp only [Exit.inBlock, Exit.then]
          exact bodyPost_ret (results_tmp (fn := Try.f35) rfl _ _ _) rfl ⟨by rw [h1, HX.out, h2]; simp, h3⟩
        · intro d0 d1 d2 d3 d4 d5 d6 d7 d8 d9 d10 d11 d12 d13 d14 d15 d16 d17 d18 d19 d20 d21 d22 d23 d24 d25 d26 d27 d28 d29 d30 d31 d32 d33 d34 d35 d36 d37 d38 d39 d40 d41 d42 d43 d44 d45 d46 d47 d48 d49 d50 d51 d52 d53 d54 d55 d56 d57 d58 d59 d60 d61 d62 d63 d64 d65 d66 d67 d68 d69 d70 d71 d72 d73 d74 d75 d76 d77 d78 d79 d80 d81 d82 d83 d84 d85 d86 d87 d88 d89 d90 d91 d92 d93 d94 d95 d96 d97 d98 d99 d100 d101 d102 d103 d104 d105 d106 d107 d108 d109 d110 d111 d112 d113 d114 d115 d116 d117 d118 d119 d120 d121 d122 d123 d124 d125 d126 d127 d128 d129 d130 d131 d132 d133 d134 d135 d136 d137 d138 d139 d140 d141 d142 d143 d144 d145 d146 d147 d148 d149 d150 d151 d152 d153 d154 d155 d156 d157 d158 d159 d160 d161 d162 d163 d164 d165 d166 d167 d168 d169 d170 d171 d172 d173 d174 d175 d176 d177 d178 d179 d180 d181 d182 d183 d184 d185 d186 d187 d188 d189 d190 d191 d192 d193 d194 d195 d196 d197 d198 d199 d200 d201 d202 d203 d204 d205 d206 d207 d208 d209 d210 d211 d212 d213 d214 d215 d216 d217 d218 d219 d220 d221 d222 d223 d224 d225 d226 d227 d228 d229 d230 d231 d232 d233 d234 d235 d236 d237 d238 d239 d240 w' hall hbl
          have HAll := hid hall
          have HBl := hid hbl
          clear hall hbl
          go_wp2_with fail
          go_ret
          exact ⟨by rw [HX.out, HAll.out]; simp, HBl.out⟩
  · have hto := hto.symm
    subst hto
    simp only [Int.sub_self, Int.zero_add] at o11 o13
    have O7 := hid o7
    have O8 := hid o8
    have O9 := hid o9
    have O10 := hid o10
    have O11 := hid o11
    have O12 := hid o12
    have O13 := hid o13
    clear o7 o8 o9 o10 o11 o12 o13
    go_enter Try.func35, Try.ntmps35
    go_wp2_with fail
    refine (specFrom_calls _ ⟨_, _, g3, g4, g5, g6, g7, g8, g9⟩ _ (by dsimp only; omega) (by dsimp only; omega) (by dsimp only; omega) (by dsimp only; omega)).mono ?_
    rintro e W1 ⟨rfl, hb1⟩
    obtain ⟨eA, hbw⟩ := one_kept hb1
    obtain ⟨c0, c1, c2, c3, c4, c5, c6, c7, c8, c9⟩ := HeapBlk.cells (h := ⟨_, _, g3, g4, g5, g6, g7, g8, g9⟩) eA
    dsimp only at c0 c1 c2 c3 c4 c5 c6 c7 c8 c9
    have HBW := hid hbw
    have HK := hid (show HeapBlk W1 w.heap.size _ ⟨g1, g1, g3, g4, g5, g6, g7, g8, g9⟩ from eA)
    clear hb1 hbw eA o3 o5 o6
    have o7 := O7.out
    have o8 := O8.out
    have o9 := O9.out
    have o10 := O10.out
    have o11 := O11.out
    have o12 := O12.out
    have o13 := O13.out
    go_wp2_with fail
    clear o7 o8 o9 o10 o11 o12 o13
    refine (HG.out _ (Nat.lt_of_lt_of_le hb HBW.out.size) (fun k hk => (HBW.out.cell (p := ⟨b, off + k, none⟩) hb).trans (HW.out k hk))).mono ?_
    rintro e W2 ⟨⟨gb, gcap, ok, rfl, hlow, hgl, hres⟩, hb2⟩
    obtain ⟨d0, d1, d2, d3, d4, d5, d6, d7, d8, d9⟩ := HeapBlk.cells (h := ⟨g1, g1, g3, g4, g5, g6, g7, g8, g9⟩) (HeapBlk.below HK.out hb2)
    dsimp only at d0 d1 d2 d3 d4 d5 d6 d7 d8 d9
    clear c0 c1 c2 c3 c4 c5 c6 c7 c8 c9
    rcases hres with ⟨hn, rfl⟩ | ⟨S, hS, rfl, hSl, hSr⟩
    · have HBW2 := hid (HBW.out.trans (hb2.mono HBW.out.size))
      have HX : Hid (R = false) := HR.out.trans (by rw [hn])
      clear hb2
      go_wp2_with fail
      go_ret
      exact ⟨by rw [HX.out]; rfl, HBW2.out⟩
    · have HX : Hid (R = (!(decide (g5 < g3) && S.getD g5.toNat 0 == 0) && specObjs ws S ⟨g1, g1, g3, g4, g5, g6, g7, g8, g9⟩ N)) := HR.out.trans (by rw [hS])
      have HB : Hid (BSt w b off w.heap.size gb N ws (.slice (some ⟨b, off, none⟩) N cap) ⟨g1, g1, g3, g4, g5, g6, g7, g8, g9⟩ S W2) :=
        ⟨Nat.lt_of_lt_of_le hb (HBW.out.trans (hb2.mono HBW.out.size)).size, fun k hk => ((HBW.out.trans (hb2.mono HBW.out.size)).cell (p := ⟨b, off + k, none⟩) hb).trans (HW.out k hk), HeapBlk.below HK.out hb2, hSl, hSr, by have := HBW.out.size; omega, by have := heap_lt HK.out; omega, by have := HBW.out.size; omega, HBW.out.trans (hb2.mono HBW.out.size)⟩
      have HSome := hid hS
      clear HBW HK HW HR HG hb2 hS hSl hSr hlow hgl
      by_cases hsc : g5 < g3
      · obtain ⟨sc, hsc5⟩ := Int.eq_ofNat_of_zero_le (show 0 ≤ g5 by have := O7.out; omega)
        have hscN : sc < N := by obtain ⟨o1, o2, o3, o4, o5, o6, o7, o8, o9, o10, o11, o12, o13⟩ := HO.out; dsimp only at *; omega
        have q0 := HB.out.row.cell (i := sc) hscN
        unfold boolCells at q0
        rw [hsc5, Int.toNat_natCast, ← hsc5, decide_eq_true hsc, Bool.true_and] at HX
        subst hsc5
        cases hz : (S.getD sc 0 != 0)
        · rw [hz] at q0
          have hz0 : (S.getD sc 0 == 0) = true := by simpa using hz
          rw [hz0] at HX
          go_wp2_with fail
          go_ret
          exact ⟨by rw [HX.out]; rfl, HB.out.below⟩
        · rw [hz] at q0
          have hz0 : (S.getD sc 0 == 0) = false := by simpa using hz
          rw [hz0] at HX
          clear hz0 hz
          go_wp2_with fail
          refine specLoop b off cap gb gcap w.heap.size N ws S ⟨g1, g1, g3, g4, (sc : Int), g6, g7, g8, g9⟩ w W2 HLen.out HO.out (specLay_noted HLen.out HO.out HSome.out) HB.out _ ?_ ?_ _ _ _ _ _ _ _ _ _ _ _ _ _ _ _ _ _ _ _ _ _ _ _ _ _ _ _ _ _ _ _ _ _ _ _ _ _ _ _ _ _ _ _ _ _ _ _ _ _ _ _ _ _ _ _ _ _ _ _ _ _ _ _ _ _ _ _ _ _ _ _ _ _ _ _ _ _ _ _ _ _ _ _ _ _ _ _ _ _ _ _ _ _ _ _ _ _ _ _ _ _ _ _ _ _ _ _ _ _ _ _ _ _ _ _ _ _ _ _ _ _ _ _ _ _ _ _ _ _ _ _ _ _ _ _ _ _ _ _ _ _ _ _ _ _ _ _ _ _ _ _ _ _ _ _ _ _ _ _ _ _ _ _ _ _ _ _ _ _ _ _ _ _ _ _ _ _ _ _ _ _ _ _ _ _ _ _ _ _ _ _ _ _ _ _ _ _ _ _ _ _ _ _ _ _ _ _ _ _ _ _ _ _ _ _ _ _ _ _ _ _ _ _ _ _ _ _ _ _ _ _ _ _ _ _ _ _ _
          · intro tmps w' h1 h2 h3
            simp only [Exit.inBlock, Exit.then]
            exact bodyPost_ret (results_tmp (fn := Try.f35) rfl _ _ _) rfl ⟨by rw [h1, HX.out, h2]; simp, h3⟩
          · intro d0 d1 d2 d3 d4 d5 d6 d7 d8 d9 d10 d11 d12 d13 d14 d15 d16 d17 d18 d19 d20 d21 d22 d23 d24 d25 d26 d27 d28 d29 d30 d31 d32 d33 d34 d35 d36 d37 d38 d39 d40 d41 d42 d43 d44 d45 d46 d47 d48 d49 d50 d51 d52 d53 d54 d55 d56 d57 d58 d59 d60 d61 d62 d63 d64 d65 d66 d67 d68 d69 d70 d71 d72 d73 d74 d75 d76 d77 d78 d79 d80 d81 d82 d83 d84 d85 d86 d87 d88 d89 d90 d91 d92 d93 d94 d95 d96 d97 d98 d99 d100 d101 d102 d103 d104 d105 d106 d107 d108 d109 d110 d111 d112 d113 d114 d115 d116 d117 d118 d119 d120 d121 d122 d123 d124 d125 d126 d127 d128 d129 d130 d131 d132 d133 d134 d135 d136 d137 d138 d139 d140 d141 d142 d143 d144 d145 d146 d147 d148 d149 d150 d151 d152 d153 d154 d155 d156 d157 d158 d159 d160 d161 d162 d163 d164 d165 d166 d167 d168 d169 d170 d171 d172 d173 d174 d175 d176 d177 d178 d179 d180 d181 d182 d183 d184 d185 d186 d187 d188 d189 d190 d191 d192 d193 d194 d195 d196 d197 d198 d199 d200 d201 d202 d203 d204 d205 d206 d207 d208 d209 d210 d211 d212 d213 d214 d215 d216 d217 d218 d219 d220 d221 d222 d223 d224 d225 d226 d227 d228 d229 d230 d231 d232 d233 d234 d235 d236 d237 d238 d239 d240 w' hall hbl
            have HAll := hid hall
            have HBl := hid hbl
            clear hall hbl
            go_wp2_with fail
            go_ret
            exact ⟨by rw [HX.out, HAll.out]; simp, HBl.out⟩
      · rw [decide_eq_false hsc, Bool.false_and] at HX
        go_wp2_with fail
        refine specLoop b off cap gb gcap w.heap.size N ws S ⟨g1, g1, g3, g4, g5, g6, g7, g8, g9⟩ w W2 HLen.out HO.out (specLay_noted HLen.out HO.out HSome.out) HB.out _ ?_ ?_ _ _ _ _ _ _ _ _ _ _ _ _ _ _ _ _ _ _ _ _ _ _ _ _ _ _ _ _ _ _ _ _ _ _ _ _ _ _ _ _ _ _ _ _ _ _ _ _ _ _ _ _ _ _ _ _ _ _ _ _ _ _ _ _ _ _ _ _ _ _ _ _ _ _ _ _ _ _ _ _ _ _ _ _ _ _ _ _ _ _ _ _ _ _ _ _ _ _ _ _ _ _ _ _ _ _ _ _ _ _ _ _ _ _ _ _ _ _ _ _ _ _ _ _ _ _ _ _ _ _ _ _ _ _ _ _ _ _ _ _ _ _ _ _ _ _ _ _ _ _ _ _ _ _ _ _ _ _ _ _ _ _ _ _ _ _ _ _ _ _ _ _ _ _ _ _ _ _ _ _ _ _ _ _ _ _ _ _ _ _ _ _ _ _ _ _ _ _ _ _ _ _ _ _ _ _ _ _ _ _ _ _ _ _ _ _ _ _ _ _ _ _ _ _ _ _ _ _ _ _ _ _ _ _ _ _ _ _
        · intro tmps w' h1 h2 h3
          simp only [Exit.inBlock, Exit.then]
          exact bodyPost_ret (results_tmp (fn := Try.f35) rfl _ _ _) rfl ⟨by rw [h1, HX.out, h2]; simp, h3⟩
        · intro d0 d1 d2 d3 d4 d5 d6 d7 d8 d9 d10 d11 d12 d13 d14 d15 d16 d17 d18 d19 d20 d21 d22 d23 d24 d25 d26 d27 d28 d29 d30 d31 d32 d33 d34 d35 d36 d37 d38 d39 d40 d41 d42 d43 d44 d45 d46 d47 d48 d49 d50 d51 d52 d53 d54 d55 d56 d57 d58 d59 d60 d61 d62 d63 d64 d65 d66 d67 d68 d69 d70 d71 d72 d73 d74 d75 d76 d77 d78 d79 d80 d81 d82 d83 d84 d85 d86 d87 d88 d89 d90 d91 d92 d93 d94 d95 d96 d97 d98 d99 d100 d101 d102 d103 d104 d105 d106 d107 d108 d109 d110 d111 d112 d113 d114 d115 d116 d117 d118 d119 d120 d121 d122 d123 d124 d125 d126 d127 d128 d129 d130 d131 d132 d133 d134 d135 d136 d137 d138 d139 d140 d141 d142 d143 d144 d145 d146 d147 d148 d149 d150 d151 d152 d153 d154 d155 d156 d157 d158 d159 d160 d161 d162 d163 d164 d165 d166 d167 d168 d169 d170 d171 d172 d173 d174 d175 d176 d177 d178 d179 d180 d181 d182 d183 d184 d185 d186 d187 d188 d189 d190 d191 d192 d193 d194 d195 d196 d197 d198 d199 d200 d201 d202 d203 d204 d205 d206 d207 d208 d209 d210 d211 d212 d213 d214 d215 d216 d217 d218 d219 d220 d221 d222 d223 d224 d225 d226 d227 d228 d229 d230 d231 d232 d233 d234 d235 d236 d237 d238 d239 d240 w' hall hbl
          have HAll := hid hall
          have HBl := hid hbl
          clear hall hbl
          go_wp2_with fail
          go_ret
          exact ⟨by rw [HX.out, HAll.out]; simp, HBl.out⟩
end Go.Proofs.Ytebpgglegnljgaa

namespace Go.Proofs.Ytebpgglegnljgaa
open Go.RowKit

theorem specLeads_at {ws S : List Int} {h : HpN} {x : Int} {old : Bool} (hx : x % 8 = 0) (e : specLeads ws S h x old = true) :
    0 ≤ x / 8 ∧ x / 8 < (ws.length : Int) ∧ S.getD (x / 8).toNat 0 ≠ 0 ∧ ((inZ h (x / 8) = true ∧ ws.getD (x / 8).toNat 0 % 16 ≠ 15) ∨ (inZ h (x / 8) = false ∧ old = true)) := by
  unfold specLeads at e
  rw [if_neg (by simpa using hx)] at e
  split at e
  · cases e
  · rename_i hc
    refine ⟨by omega, by omega, by omega, ?_⟩
    cases hi : inZ h (x / 8)
    · rw [hi] at e
      right
      exact ⟨rfl, by simpa using e⟩
    · rw [hi] at e
      left
      exact ⟨rfl, by simpa using e⟩

theorem specLeads_mk {ws S : List Int} {h : HpN} {x : Int} {old : Bool} (hx : x % 8 = 0) (h0 : 0 ≤ x / 8) (h1 : x / 8 < (ws.length : Int)) (h2 : S.getD (x / 8).toNat 0 ≠ 0)
    (h3 : (inZ h (x / 8) = true ∧ ws.getD (x / 8).toNat 0 % 16 ≠ 15) ∨ (inZ h (x / 8) = false ∧ old = true)) : specLeads ws S h x old = true := by
  unfold specLeads
  rw [if_neg (by simpa using hx), if_neg (by omega)]
  rcases h3 with ⟨e1, e2⟩ | ⟨e1, e2⟩
  · rw [e1, decide_eq_true e2]
    rfl
  · rw [e1, e2]
    rfl

theorem leadsZ_mk {S : List Int} {size x sp : Int} (h0 : x % 8 = 0) (h1 : sp ≤ x / 8) (h2 : x / 8 < sp + size) (h3 : 0 < S.getD (x / 8).toNat 0) : leadsZ S size x sp = true := by
  unfold leadsZ
  rw [decide_eq_true h0, decide_eq_true (show sp ≤ x / 8 ∧ x / 8 < sp + size from ⟨h1, h2⟩), decide_eq_true h3]
  rfl

theorem noted_pos {ws S : List Int} (hS : Noted ws S) {a : Nat} (h : S.getD a 0 ≠ 0) : 0 < S.getD a 0 := by
  have e1 := hS.2 a h
  have e2 := size_three (ws.getD a 0)
  omega

theorem inZ_iff {h : HpN} {a : Int} : inZ h a = true ↔ h.to ≤ a ∧ a < h.to + h.size := by
  unfold inZ
  simp

theorem inZ_not {h : HpN} {a : Int} : inZ h a = false ↔ ¬ (h.to ≤ a ∧ a < h.to + h.size) := by
  unfold inZ
  rw [decide_eq_false_iff_not]

theorem field_to {ws S : List Int} {h : HpN} {old : Bool} {x : Int} (ho : Ordered h ws.length) (hS : Noted ws S) (e : specLeads ws S h x old = true) : implField S h old x = true := by
  obtain ⟨o1, o2, o3, o4, _⟩ := ho
  unfold implField wordOkZ
  by_cases hx : x % 8 = 0
  · obtain ⟨k0, k1, k2, k3⟩ := specLeads_at hx e
    have kp := noted_pos hS k2
    rw [if_pos hx]
    rcases k3 with ⟨hi, _⟩ | ⟨hi, ho⟩
    · have hi := inZ_iff.1 hi
      rw [leadsZ_mk hx hi.1 hi.2 kp]
      rfl
    · have hi := inZ_not.1 hi
      rw [ho, leadsZ_mk hx (sp := h.size - h.to) (by omega) (by omega) kp]
      simp
  · rw [if_neg hx]
    unfold specLeads at e
    rw [if_pos hx] at e
    rw [e]
    rfl

theorem field_from {ws S : List Int} {h : HpN} {old : Bool} {x : Int} (ho : Ordered h ws.length) (hm : ∀ a : Nat, inZ h (a : Int) = true → S.getD a 0 ≠ 0 → ws.getD a 0 % 16 ≠ 15) (e : implField S h old x = true) : specLeads ws S h x old = true := by
  obtain ⟨o1, o2, o3, o4, _⟩ := ho
  unfold implField wordOkZ at e
  by_cases hx : x % 8 = 0
  · rw [if_pos hx] at e
    rcases Bool.or_eq_true_iff.1 e with e | e
    · obtain ⟨k1, k2, k3, k4⟩ := leadsZ_at e
      have hi : inZ h (x / 8) = true := inZ_iff.2 ⟨k2, k3⟩
      have h0 : 0 ≤ x / 8 := by omega
      refine specLeads_mk hx h0 (by omega) (by omega) (Or.inl ⟨hi, hm _ ?_ (by omega)⟩)
      rw [Int.toNat_of_nonneg h0]
      exact hi
    · obtain ⟨e1, e2⟩ := Bool.and_eq_true_iff.1 e
      obtain ⟨k1, k2, k3, k4⟩ := leadsZ_at e2
      exact specLeads_mk hx (by omega) (by omega) (by omega) (Or.inr ⟨inZ_not.2 (by omega), e1⟩)
  · rw [if_neg hx] at e
    unfold specLeads
    rw [if_pos hx]
    rcases Bool.or_eq_true_iff.1 e with e | e
    · exact e
    · obtain ⟨e1, e2⟩ := Bool.and_eq_true_iff.1 e
      exact absurd (leadsZ_at e2).1 hx

theorem at_to {ws S : List Int} {h : HpN} {a : Nat} (ho : Ordered h ws.length) (hS : Noted ws S) (ha : S.getD a 0 ≠ 0) (e : specAt ws S h a = true) : implAt ws S h a = true := by
  unfold specAt at e
  unfold implAt
  split at e
  · rename_i hm
    rw [if_pos hm]
    unfold specMoved at e
    unfold implMoved
    simp only [Bool.and_eq_true, decide_eq_true_eq] at e
    obtain ⟨⟨⟨e1, e2⟩, e3⟩, e4⟩ := e
    obtain ⟨k0, k1, k2, k3⟩ := specLeads_at e3 e2
    rcases k3 with ⟨hi, _⟩ | ⟨_, hf⟩
    · have hi := inZ_iff.1 hi
      have s1 := (hS.2 _ k2).2.1
      have s2 := (hS.2 _ ha).2.1
      rw [e1, leadsZ_mk e3 hi.1 hi.2 (noted_pos hS k2), decide_eq_true (by rw [s1, s2]; exact e4)]
      rfl
    · cases hf
  · rename_i hm
    rw [if_neg hm, List.all_eq_true]
    rw [List.all_eq_true] at e
    exact fun i hi => field_to ho hS (e i hi)

theorem at_from {ws S : List Int} {h : HpN} {a : Nat} (ho : Ordered h ws.length) (hS : Noted ws S) (ha : S.getD a 0 ≠ 0) (hmv : ∀ a : Nat, inZ h (a : Int) = true → S.getD a 0 ≠ 0 → ws.getD a 0 % 16 ≠ 15) (e : implAt ws S h a = true) : specAt ws S h a = true := by
  have ho' := ho
  obtain ⟨o1, o2, o3, o4, _⟩ := ho'
  unfold implAt at e
  unfold specAt
  split at e
  · rename_i hm
    rw [if_pos hm]
    unfold implMoved at e
    unfold specMoved
    simp only [Bool.and_eq_true, decide_eq_true_eq] at e
    obtain ⟨e1, e2, e3⟩ := e
    obtain ⟨k1, k2, k3, k4⟩ := leadsZ_at e2
    have h0 : 0 ≤ ws.getD (a + 1) 0 / 8 := by omega
    have hi : inZ h (ws.getD (a + 1) 0 / 8) = true := inZ_iff.2 ⟨k2, k3⟩
    have hne : S.getD (ws.getD (a + 1) 0 / 8).toNat 0 ≠ 0 := by omega
    have hnm := hmv (ws.getD (a + 1) 0 / 8).toNat (by rw [Int.toNat_of_nonneg h0]; exact hi) hne
    have s1 := (hS.2 _ hne).2.1
    have s2 := (hS.2 _ ha).2.1
    rw [e1, specLeads_mk k1 h0 (by omega) hne (Or.inl ⟨hi, hnm⟩), decide_eq_true k1, decide_eq_true (by rw [← s1, ← s2]; exact e3)]
    rfl
  · rename_i hm
    rw [if_neg hm, List.all_eq_true]
    rw [List.all_eq_true] at e
    exact fun i hi => field_from ho hmv (e i hi)

theorem objs_same {ws S : List Int} {h : HpN} (ho : Ordered h ws.length) (hS : Noted ws S) : specObjs ws S h ws.length = implObjs ws S h ws.length := by
  unfold specObjs implObjs
  rw [Bool.eq_iff_iff, List.all_eq_true, List.all_eq_true]
  constructor
  · intro H a ha
    rcases Bool.or_eq_true_iff.1 (H a ha) with e | e
    · rw [e]
      rfl
    · by_cases h0 : S.getD a 0 = 0
      · rw [h0]
        rfl
      · rw [at_to ho hS h0 e]
        simp
  · intro H a ha
    have hmv : ∀ a : Nat, inZ h (a : Int) = true → S.getD a 0 ≠ 0 → ws.getD a 0 % 16 ≠ 15 := by
      intro c hc h0 hm
      rcases Bool.or_eq_true_iff.1 (H c (List.mem_range.2 (hS.2 c h0).1)) with e | e
      · exact h0 (by simpa using e)
      · unfold implAt at e
        rw [if_pos hm] at e
        unfold implMoved at e
        rw [hc] at e
        cases e
    rcases Bool.or_eq_true_iff.1 (H a ha) with e | e
    · rw [e]
      rfl
    · by_cases h0 : S.getD a 0 = 0
      · rw [h0]
        rfl
      · rw [at_from ho hS h0 hmv e]
        simp

theorem ok_same {ws : List Int} {h : HpN} (ho : Ordered h ws.length) : specOk ws h = implOk ws h := by
  have ho' := ho
  obtain ⟨o1, o2, o3, o4, o5, o6, o7, o8, o9, o10, o11, o12, o13⟩ := ho'
  unfold specOk implOk specLay implLay
  cases h1 : lay ws h.to.toNat h.bottom.toNat (List.replicate ws.length 0) with
  | none => rfl
  | some S1 =>
    have n1 := lay_noted (by omega) (zeros_noted ws) h1
    dsimp only
    cases h2 : lay ws h.top.toNat (h.to + h.size).toNat S1 with
    | none => rfl
    | some S2 =>
      have n2 := lay_noted (by omega) n1 h2
      dsimp only
      by_cases hs : h.scan < h.bottom
      · rw [if_pos hs, if_pos hs, decide_eq_true hs]
        cases h3 : lay ws (h.size - h.to).toNat h.fb.toNat S2 with
        | none =>
          dsimp only
          by_cases h0 : S2.getD h.scan.toNat 0 = 0
          · rw [if_pos h0]
          · rw [if_neg h0]
        | some S3 =>
          have n3 := lay_noted (by omega) n2 h3
          dsimp only
          cases h4 : lay ws h.ft.toNat (h.size - h.to + h.size).toNat S3 with
          | none =>
            dsimp only
            by_cases h0 : S2.getD h.scan.toNat 0 = 0
            · rw [if_pos h0]
            · rw [if_neg h0]
          | some S4 =>
            have n4 := lay_noted (by omega) n3 h4
            have k : S4.getD h.scan.toNat 0 = S2.getD h.scan.toNat 0 := (lay_else h4 _ (by omega)).trans (lay_else h3 _ (by omega))
            dsimp only
            rw [k]
            by_cases h0 : S2.getD h.scan.toNat 0 = 0
            · rw [if_pos h0, h0]
              rfl
            · rw [if_neg h0]
              have e0 : (S2.getD h.scan.toNat 0 == 0) = false := by simpa using h0
              rw [e0]
              exact objs_same ho n4
      · rw [if_neg hs, if_neg hs, decide_eq_false hs]
        exact objs_same ho n2
end Go.Proofs.Ytebpgglegnljgaa
