/- The specification's HeapGraph: where an object lies now; heaps and roots that are not fit. -/
import Derived.Test.YtnoobonlmfgfhaaImplGraphB
import Derived.Test.YtnoobonlmfgfhaaSpecWkA
namespace Go.Proofs.Ytnoobonlmfgfhaa
open Go.RowKit

set_option maxHeartbeats 1000000 in
set_option maxRecDepth 100000 in
theorem sNow_calls {b off N cap : Nat} {ws S : List Int} {h : HpN} (ok : OkHeap ws S h) (x : Int) (w : World) (d : Wds b off N ws w) (hN : N ≤ 8000) (hx : Leads ws S x) (hx8 : x % 8 = 0) :
    Calls Try.prog 60 #[heapV (.slice (some ⟨b, off, none⟩) N cap) h, .int .i64 x] w fun e w' => e = .returned (.int .i64 (nowZ ws (x / 8).toNat : Nat)) ∧ Below w.heap.size w w' := by
  obtain ⟨x0, x1, hS⟩ := hx hx8
  obtain ⟨a, ha⟩ : ∃ a, (x / 8).toNat = a := ⟨_, rfl⟩
  rw [ha] at hS ⊢
  have hxa : x / 8 = (a : Int) := by omega
  have hn := ok.noted.2 a hS
  have haN : a < N := by rw [← d.len]; exact hn.1
  have HNu := hid (fun W => specNum_calls x W)
  unfold numZ at HNu
  rw [hxa] at HNu
  obtain ⟨g1, g2, g3, g4, g5, g6, g7, g8, g9⟩ := h
  unfold heapV
  obtain ⟨W0, hW0, hA, k2⟩ := one_new w (.slice (some ⟨b, off, none⟩) N cap) ⟨g1, g2, g3, g4, g5, g6, g7, g8, g9⟩
  dsimp only at hW0
  have c0 := hA.cells.1
  have q0 := (d.below k2).cells a haN
  have hb15 := and15 (ws.getD a 0)
  obtain ⟨ai, hai⟩ : ∃ ai : Int, (a : Int) = ai := ⟨_, rfl⟩
  rw [hai] at HNu
  have hat : ai.toNat = a := by omega
  have ha0 : 0 ≤ ai := by omega
  have hal : ai < (N : Int) := by omega
  have HK := hid k2
  have HW0 := hid hW0
  by_cases hk : ws.getD a 0 % 16 = 15
  · have e := at_ok ok hS
    unfold specAt at e
    rw [if_pos hk] at e
    unfold specMoved at e
    rw [Bool.and_eq_true, Bool.and_eq_true, Bool.and_eq_true, decide_eq_true_eq, decide_eq_true_eq] at e
    obtain ⟨⟨⟨-, e1⟩, e2⟩, -⟩ := e
    obtain ⟨a1, a2, a3, a4⟩ := specLeads_at e2 e1
    have hd := (heads_noted ok.noted).2 a hS
    have ha1 : a + 1 < N := by
      have h1 := hn.2.2
      have h2 := hn.2.1
      have hsz : sizeZ (ws.getD a 0) ≠ 0 := by rw [← hn.2.1]; exact hS
      rw [← d.len]
      unfold sizeN at *
      omega
    have q1 := (d.below k2).cells (a + 1) ha1
    have hnow : ((nowZ ws a : Nat) : Int) = ws.getD (a + 1) 0 / 8 := by
      unfold nowZ
      rw [if_pos hk]
      omega
    rw [hnow]
    obtain ⟨y, hy⟩ : ∃ y, ws.getD (a + 1) 0 = y := ⟨_, rfl⟩
    rw [hy] at q1 ⊢
    have HNy := hid (fun W => specNum_calls y W)
    unfold numZ at HNy
    obtain ⟨hd0, hhd⟩ : ∃ hd0, ws.getD a 0 = hd0 := ⟨_, rfl⟩
    rw [hhd] at q0 hb15 hk
    rw [hk] at hb15
    have hw : wrap64 (ai + 1) = ai + 1 := by unfold wrap64; omega
    have hti : (ai + 1).toNat = a + 1 := by omega
    have hlt : ai + 1 < (N : Int) := by omega
    have h0 : 0 ≤ ai + 1 := by omega
    clear hn hd ha1 hhd hai hk e1 e2 a1 a2 a3 a4 hnow hy d hS ok hxa x0 x1 ha hx hx8 haN hA k2 hW0
    go_enter Try.func60, Try.ntmps60
    go_wp2_with fail
    rw [HW0.out]
    refine (HNu.out _).mono ?_
    rintro e W1 ⟨rfl, rfl⟩
    go_wp2_with fail
    refine (HNy.out _).mono ?_
    rintro e W2 ⟨rfl, rfl⟩
    go_wp2_with fail
    go_ret
    exact ⟨rfl, HK.out⟩
  · have hnow : nowZ ws a = a := by
      unfold nowZ
      rw [if_neg hk]
    rw [hnow, hai]
    obtain ⟨hd0, hhd⟩ : ∃ hd0, ws.getD a 0 = hd0 := ⟨_, rfl⟩
    rw [hhd] at q0 hb15 hk
    obtain ⟨kd, hkd⟩ : ∃ kd, hd0 % 16 = kd := ⟨_, rfl⟩
    rw [hkd] at hb15 hk
    have hkb : (kd == 15) = false := by simpa using hk
    clear hn hhd hai hkd hnow d hS ok hxa x0 x1 ha hx hx8 haN hA k2 hW0
    go_enter Try.func60, Try.ntmps60
    go_wp2_with fail
    rw [HW0.out]
    refine (HNu.out _).mono ?_
    rintro e W1 ⟨rfl, rfl⟩
    go_wp2_with fail
    go_ret
    exact ⟨rfl, HK.out⟩

set_option maxHeartbeats 2000000 in
set_option maxRecDepth 100000 in
theorem sGraph_notOk (b off cap N : Nat) (h : HpN) (rg n rc : Nat) (w : World)
    (HOk : Hid (∀ X, Below w.heap.size w X → Calls Try.prog 10 #[heapV (.slice (some ⟨b, off, none⟩) N cap) h] X fun e w' => e = .returned (.bool false) ∧ Below X.heap.size X w')) :
    Calls Try.prog 28 #[heapV (.slice (some ⟨b, off, none⟩) N cap) h, .slice (some ⟨rg, 0, none⟩) n rc] w fun e w' => e = .returned (.tuple #[.slice none 0 0, .slice none 0 0, .bool false]) ∧ Below w.heap.size w w' := by
  obtain ⟨g1, g2, g3, g4, g5, g6, g7, g8, g9⟩ := h
  unfold heapV at *
  dsimp only at *
  obtain ⟨W0, hW0, hA, k2⟩ := one_new w (.slice (some ⟨b, off, none⟩) N cap) ⟨g1, g2, g3, g4, g5, g6, g7, g8, g9⟩
  dsimp only at hW0
  have HW0 := hid hW0
  have HK2 := hid k2
  clear hW0 hA k2
  go_enter Try.func28, Try.ntmps28
  go_wp2_with fail
  rw [HW0.out]
  refine (HOk.out _ HK2.out).mono ?_
  rintro e W1 ⟨rfl, hb1⟩
  have HB6 := hid (HK2.out.trans (hb1.mono HK2.out.size))
  clear hb1 HW0 HK2 HOk
  go_wp2_with fail
  exact bodyPost_ret (v := .tuple #[.slice none 0 0, .slice none 0 0, .bool false]) (by simp [results, Try.results28, go_sem]) rfl ⟨rfl, HB6.out⟩

set_option maxHeartbeats 2000000 in
set_option maxRecDepth 100000 in
theorem sGraph_many (b off cap N : Nat) (h : HpN) (rg n rc : Nat) (w : World) (hn : (20 : Int) < (n : Int))
    (HOk : Hid (∀ X, Below w.heap.size w X → Calls Try.prog 10 #[heapV (.slice (some ⟨b, off, none⟩) N cap) h] X fun e w' => e = .returned (.bool true) ∧ Below X.heap.size X w')) :
    Calls Try.prog 28 #[heapV (.slice (some ⟨b, off, none⟩) N cap) h, .slice (some ⟨rg, 0, none⟩) n rc] w fun e w' => e = .returned (.tuple #[.slice none 0 0, .slice none 0 0, .bool false]) ∧ Below w.heap.size w w' := by
  obtain ⟨g1, g2, g3, g4, g5, g6, g7, g8, g9⟩ := h
  unfold heapV at *
  dsimp only at *
  obtain ⟨W0, hW0, hA, k2⟩ := one_new w (.slice (some ⟨b, off, none⟩) N cap) ⟨g1, g2, g3, g4, g5, g6, g7, g8, g9⟩
  dsimp only at hW0
  have HW0 := hid hW0
  have HK2 := hid k2
  clear hW0 hA k2
  go_enter Try.func28, Try.ntmps28
  go_wp2_with fail
  rw [HW0.out]
  refine (HOk.out _ HK2.out).mono ?_
  rintro e W1 ⟨rfl, hb1⟩
  have HB6 := hid (HK2.out.trans (hb1.mono HK2.out.size))
  clear hb1 HW0 HK2 HOk
  go_wp2_with fail
  exact bodyPost_ret (v := .tuple #[.slice none 0 0, .slice none 0 0, .bool false]) (by simp [results, Try.results28, go_sem]) rfl ⟨rfl, HB6.out⟩

set_option maxHeartbeats 2000000 in
set_option maxRecDepth 100000 in
theorem sGraph_noRoot (b off cap N : Nat) (h : HpN) (rg n rc : Nat) (w : World) (hn : ¬ (20 : Int) < (n : Int))
    (HOk : Hid (∀ X, Below w.heap.size w X → Calls Try.prog 10 #[heapV (.slice (some ⟨b, off, none⟩) N cap) h] X fun e w' => e = .returned (.bool true) ∧ Below X.heap.size X w'))
    (HRt : Hid (∀ X, Below w.heap.size w X → Calls Try.prog 42 #[heapV (.slice (some ⟨b, off, none⟩) N cap) h, .slice (some ⟨rg, 0, none⟩) n rc] X fun e w' => e = .returned (.bool false) ∧ Below X.heap.size X w')) :
    Calls Try.prog 28 #[heapV (.slice (some ⟨b, off, none⟩) N cap) h, .slice (some ⟨rg, 0, none⟩) n rc] w fun e w' => e = .returned (.tuple #[.slice none 0 0, .slice none 0 0, .bool false]) ∧ Below w.heap.size w w' := by
  obtain ⟨g1, g2, g3, g4, g5, g6, g7, g8, g9⟩ := h
  unfold heapV at *
  dsimp only at *
  obtain ⟨W0, hW0, hA, k2⟩ := one_new w (.slice (some ⟨b, off, none⟩) N cap) ⟨g1, g2, g3, g4, g5, g6, g7, g8, g9⟩
  dsimp only at hW0
  have HW0 := hid hW0
  have HK2 := hid k2
  have HA := hid hA
  clear hW0 hA k2
  go_enter Try.func28, Try.ntmps28
  go_wp2_with fail
  rw [HW0.out]
  refine (HOk.out _ HK2.out).mono ?_
  rintro e W1 ⟨rfl, hb1⟩
  have HB1 := hid (HK2.out.trans (hb1.mono HK2.out.size))
  obtain ⟨c0, c1, c2, c3, c4, c5, c6, c7, c8, c9⟩ := (HA.out.below hb1).cells
  dsimp only at c0 c1 c2 c3 c4 c5 c6 c7 c8 c9
  clear hb1 HW0 HK2 HOk HA
  go_wp2_with fail
  refine (HRt.out _ HB1.out).mono ?_
  rintro e W2 ⟨rfl, hb2⟩
  have HB6 := hid (HB1.out.trans (hb2.mono HB1.out.size))
  clear hb2 HB1 HRt c0 c1 c2 c3 c4 c5 c6 c7 c8 c9
  go_wp2_with fail
  exact bodyPost_ret (v := .tuple #[.slice none 0 0, .slice none 0 0, .bool false]) (by simp [results, Try.results28, go_sem]) rfl ⟨rfl, HB6.out⟩
end Go.Proofs.Ytnoobonlmfgfhaa
