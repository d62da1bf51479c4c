/- A step of the specification's check, instruction by instruction. -/
import Derived.Test.YtfmkgppkgmjpfaaDoorCheckStepA
namespace Go.Proofs.YtfmkgppkgmjpfaaDoor
open Go.RowKit

set_option maxRecDepth 100000 in
theorem pops_18 (W : World) : Calls Tryd.prog 29 #[.int .i64 18] W fun e W' => e = .returned (.int .i64 2) ∧ W = W' := by
  go_enter Tryd.func29, Tryd.ntmps29
  go_wp2_with fail
  go_ret
  exact ⟨rfl, rfl⟩

set_option maxRecDepth 100000 in
theorem pops_19 (W : World) : Calls Tryd.prog 29 #[.int .i64 19] W fun e W' => e = .returned (.int .i64 1) ∧ W = W' := by
  go_enter Tryd.func29, Tryd.ntmps29
  go_wp2_with fail
  go_ret
  exact ⟨rfl, rfl⟩

set_option maxRecDepth 100000 in
theorem pops_20 (W : World) : Calls Tryd.prog 29 #[.int .i64 20] W fun e W' => e = .returned (.int .i64 1) ∧ W = W' := by
  go_enter Tryd.func29, Tryd.ntmps29
  go_wp2_with fail
  go_ret
  exact ⟨rfl, rfl⟩

set_option maxRecDepth 100000 in
theorem pops_21 (W : World) : Calls Tryd.prog 29 #[.int .i64 21] W fun e W' => e = .returned (.int .i64 0) ∧ W = W' := by
  go_enter Tryd.func29, Tryd.ntmps29
  go_wp2_with fail
  go_ret
  exact ⟨rfl, rfl⟩

set_option maxRecDepth 100000 in
theorem pops_22 (W : World) : Calls Tryd.prog 29 #[.int .i64 22] W fun e W' => e = .returned (.int .i64 1) ∧ W = W' := by
  go_enter Tryd.func29, Tryd.ntmps29
  go_wp2_with fail
  go_ret
  exact ⟨rfl, rfl⟩

set_option maxRecDepth 100000 in
theorem pops_23 (W : World) : Calls Tryd.prog 29 #[.int .i64 23] W fun e W' => e = .returned (.int .i64 1) ∧ W = W' := by
  go_enter Tryd.func29, Tryd.ntmps29
  go_wp2_with fail
  go_ret
  exact ⟨rfl, rfl⟩

set_option maxRecDepth 100000 in
theorem pops_24 (W : World) : Calls Tryd.prog 29 #[.int .i64 24] W fun e W' => e = .returned (.int .i64 0) ∧ W = W' := by
  go_enter Tryd.func29, Tryd.ntmps29
  go_wp2_with fail
  go_ret
  exact ⟨rfl, rfl⟩

set_option maxRecDepth 100000 in
theorem pops_25 (W : World) : Calls Tryd.prog 29 #[.int .i64 25] W fun e W' => e = .returned (.int .i64 0) ∧ W = W' := by
  go_enter Tryd.func29, Tryd.ntmps29
  go_wp2_with fail
  go_ret
  exact ⟨rfl, rfl⟩

set_option maxRecDepth 100000 in
set_option maxHeartbeats 4000000 in
theorem step_18 {W0 : World} {Mb bc oc cc ge gs gp ce cs cp : Nat} {is : List In} {T : List Sq} {w : List Nat} {vw : Value} {W : World} (h : Ck W0 Mb (.slice (some ⟨bc, oc, none⟩) is.length cc) ge gs gp ce cs cp is.length T w vw false W) (hbc : bc < W0.heap.size) (hin : InsAt W0 bc oc is) (hall : ∀ i ∈ is, i.ok = true) (k : Nat) (hk : k < is.length) (hp : 1 ≤ (tg T k).p) (ho : (is.getD k default).op = 18) :
    Calls Tryd.prog 23 #[.pointer (some ⟨Mb, 0, none⟩), .int .i64 (k : Int)] W fun e W' => e = .returned (.tuple #[]) ∧ StC W0 Mb (.slice (some ⟨bc, oc, none⟩) is.length cc) ge gs gp ce cs cp is.length (stepZ is T w k) W' := by
  obtain ⟨i, hi⟩ : ∃ i, is.getD k default = i := ⟨_, rfl⟩
  have hok := all_ok hall hk
  rw [hi] at hok ho
  obtain ⟨op, a, b, c⟩ := i
  dsimp only at ho
  subst ho
  have HA := h.below ((Below.refl W.heap.size W).alloc (Nat.le_refl _) (.cells #[.int .i64 18, .int .i64 a, .int .i64 b, .int .i64 c] 40))
  have hV1 := (MapKept.heap_alloc W (.cells #[.int .i64 18, .int .i64 a, .int .i64 b, .int .i64 c] 40)).1
  have hcell := h.cells (k := k) hk
  have hinW := hin.below h.bel hbc
  have c0 := hinW k hk 0 (by omega)
  have c1 := hinW k hk 1 (by omega)
  have c2 := hinW k hk 2 (by omega)
  have c3 := hinW k hk 3 (by omega)
  rw [hi] at c0 c1 c2 c3
  simp only [In.cell, Nat.add_zero] at c0 c1 c2 c3
  have hpz : ¬ (tg T k).p = 0 := by omega
  have hsane := h.sane _ (tg_mem (show k < T.length by rw [h.len]; exact hk))
  have u1 : envV (tg T k) = (tg T k).n := if_neg hpz
  have u2 : stkV (tg T k) = (tg T k).v := if_neg hpz
  have u3 : parV (tg T k) = (tg T k).p - 1 := if_neg hpz
  rw [u1, u2, u3] at hcell
  obtain ⟨⟨x, y, p⟩, hx⟩ : ∃ s, tg T k = s := ⟨_, rfl⟩
  rw [hx] at hcell hp hsane
  unfold SaneS at hsane
  obtain ⟨z, hz⟩ : ∃ z, p - 1 = z := ⟨_, rfl⟩
  dsimp only at hcell hp hsane
  rw [hz] at hcell
  obtain ⟨d1, d2, d3, -, -, -⟩ := hcell
  have HB : Hid (0 ≤ x ∧ x ≤ 100 ∧ 0 ≤ y ∧ y ≤ 100 ∧ 0 ≤ z ∧ z ≤ 2 ∧ p = z + 1 ∧ k < is.length ∧ is.length ≤ 1500) := by
    have := h.nl
    rcases hsane with hs | hs
    · omega
    · exact ⟨by omega, by omega, by omega, by omega, by omega, by omega, by omega, hk, by omega⟩
  have hp1 : p = z + 1 := HB.out.2.2.2.2.2.2.1
  have HI := hid hi
  have HX : Hid (tg T k = ⟨x, y, z + 1⟩) := by show _ = _; rw [hx, hp1]
  have HOk := hid hok
  have HF := hid (And.intro hbc (And.intro hin hall))
  have e0 := cell_of_heap h.blk 0
  have e1 := cell_of_heap h.blk 1
  have e2 := cell_of_heap h.blk 2
  have e3 := cell_of_heap h.blk 3
  simp at e0 e1 e2 e3
  obtain ⟨V, hV⟩ : ∃ V, W.alloc (.cells #[.int .i64 18, .int .i64 a, .int .i64 b, .int .i64 c] 40) = V := ⟨_, rfl⟩
  rw [hV] at HA hV1
  have HA' := hid HA
  have HV := hid hV
  have HV1 := hid hV1
  have HS0 := hid (StC.of HA)
  have q0 : (0 : Int) ≤ (k : Int) := by omega
  have q1 : (k : Int) < (is.length : Int) := by omega
  have w1 : wrap64 ((k : Int) + 1) = (k : Int) + 1 := by rw [wrap64]; have := HB.out; omega
  have w2 : wrap64 (x + 1) = x + 1 := by rw [wrap64]; have := HB.out; omega
  have w3 : wrap64 (x + 2) = x + 2 := by rw [wrap64]; have := HB.out; omega
  have w4 : wrap64 (y + 1) = y + 1 := by rw [wrap64]; have := HB.out; omega
  have w5 : wrap64 (y - 1) = y - 1 := by rw [wrap64]; have := HB.out; omega
  have w6 : wrap64 (x - 1) = x - 1 := by rw [wrap64]; have := HB.out; omega
  have HPo := hid (pops_18 V)
  clear h hin hall hbc hinW hk hp hi hok hpz hsane u1 u2 u3 hx hz hp1 hV HA hV1
  go_enter Tryd.func23, Tryd.ntmps23
  go_upto_region 1 with fail
  rw [HV.out]
  clear HV c0 c1 c2 c3 e0 e1 e2 e3 d1 d2 d3
  have hcell := HA'.out.cells (k := k) HB.out.2.2.2.2.2.2.2.1
  rw [HX.out] at hcell
  have u0 : ¬ ((⟨x, y, z + 1⟩ : Sq).p = 0) := by dsimp only; have := HB.out; omega
  rw [show envV ⟨x, y, z + 1⟩ = x from if_neg u0, show stkV ⟨x, y, z + 1⟩ = y from if_neg u0, show parV ⟨x, y, z + 1⟩ = z from (if_neg u0).trans (Int.add_sub_cancel z 1)] at hcell
  obtain ⟨d1, d2, d3, -, -, -⟩ := hcell
  have e1 := cell_of_heap HA'.out.blk 1
  have e2 := cell_of_heap HA'.out.blk 2
  have e3 := cell_of_heap HA'.out.blk 3
  have e5 := cell_of_heap HA'.out.blk 5
  have z5 := frozen_of_heap HA'.out.blk 5
  have i0 := cell_of_heap HV1.out 0
  have i1 := cell_of_heap HV1.out 1
  have i3 := cell_of_heap HV1.out 3
  simp at e1 e2 e3 e5 i0 i1 i3
  clear u0
  go_wp2_with fail
  refine HPo.out.mono ?_
  rintro e _ ⟨rfl, rfl⟩
  clear d1 d2 d3 e1 e2 e3
  by_cases hpop : y < 2
  · have HZ : Hid (stepZ is T w k = none) := by
      show _ = _
      unfold stepZ
      rw [HI.out, HX.out, if_neg (fun e => by simp [needsZ] at e; omega)]
    go_wp2_with fail
    (try simp only [Exit.inBlock, Exit.then])
    refine bodyPost_ret (results_none rfl _ _ _) rfl ?_
    refine ⟨rfl, ?_⟩
    rw [HZ.out]
    exact HS0.out.flagged
  have HZ : Hid (stepZ is T w k = rz is.length (some (T, w)) [((k : Int) + 1, (⟨x, y - 1, z + 1⟩ : Sq))]) := by
    show _ = _
    unfold stepZ
    rw [HI.out, HX.out, if_pos (by simp [needsZ]; omega)]
    simp [exitsZ, Sq.more, Int.sub_eq_add_neg]
  go_wp2_with fail
  refine (come_st HS0.out ((k : Int) + 1) (x) (y - 1) (z) HB.out.2.2.2.2.1 HB.out.2.2.2.2.2.1).mono ?_
  rintro e V2 ⟨rfl, hs1, hc1⟩
  have HS1 := hid hs1
  clear hs1 hc1 HS0
  go_wp2_with fail
  (try simp only [Exit.inBlock, Exit.then])
  refine bodyPost_end (results_none rfl _ _ _) rfl ?_
  refine ⟨rfl, ?_⟩
  rw [HZ.out]
  exact HS1.out

set_option maxRecDepth 100000 in
set_option maxHeartbeats 4000000 in
theorem step_19 {W0 : World} {Mb bc oc cc ge gs gp ce cs cp : Nat} {is : List In} {T : List Sq} {w : List Nat} {vw : Value} {W : World} (h : Ck W0 Mb (.slice (some ⟨bc, oc, none⟩) is.length cc) ge gs gp ce cs cp is.length T w vw false W) (hbc : bc < W0.heap.size) (hin : InsAt W0 bc oc is) (hall : ∀ i ∈ is, i.ok = true) (k : Nat) (hk : k < is.length) (hp : 1 ≤ (tg T k).p) (ho : (is.getD k default).op = 19) :
    Calls Tryd.prog 23 #[.pointer (some ⟨Mb, 0, none⟩), .int .i64 (k : Int)] W fun e W' => e = .returned (.tuple #[]) ∧ StC W0 Mb (.slice (some ⟨bc, oc, none⟩) is.length cc) ge gs gp ce cs cp is.length (stepZ is T w k) W' := by
  obtain ⟨i, hi⟩ : ∃ i, is.getD k default = i := ⟨_, rfl⟩
  have hok := all_ok hall hk
  rw [hi] at hok ho
  obtain ⟨op, a, b, c⟩ := i
  dsimp only at ho
  subst ho
  have HA := h.below ((Below.refl W.heap.size W).alloc (Nat.le_refl _) (.cells #[.int .i64 19, .int .i64 a, .int .i64 b, .int .i64 c] 40))
  have hV1 := (MapKept.heap_alloc W (.cells #[.int .i64 19, .int .i64 a, .int .i64 b, .int .i64 c] 40)).1
  have hcell := h.cells (k := k) hk
  have hinW := hin.below h.bel hbc
  have c0 := hinW k hk 0 (by omega)
  have c1 := hinW k hk 1 (by omega)
  have c2 := hinW k hk 2 (by omega)
  have c3 := hinW k hk 3 (by omega)
  rw [hi] at c0 c1 c2 c3
  simp only [In.cell, Nat.add_zero] at c0 c1 c2 c3
  have hpz : ¬ (tg T k).p = 0 := by omega
  have hsane := h.sane _ (tg_mem (show k < T.length by rw [h.len]; exact hk))
  have u1 : envV (tg T k) = (tg T k).n := if_neg hpz
  have u2 : stkV (tg T k) = (tg T k).v := if_neg hpz
  have u3 : parV (tg T k) = (tg T k).p - 1 := if_neg hpz
  rw [u1, u2, u3] at hcell
  obtain ⟨⟨x, y, p⟩, hx⟩ : ∃ s, tg T k = s := ⟨_, rfl⟩
  rw [hx] at hcell hp hsane
  unfold SaneS at hsane
  obtain ⟨z, hz⟩ : ∃ z, p - 1 = z := ⟨_, rfl⟩
  dsimp only at hcell hp hsane
  rw [hz] at hcell
  obtain ⟨d1, d2, d3, -, -, -⟩ := hcell
  have HB : Hid (0 ≤ x ∧ x ≤ 100 ∧ 0 ≤ y ∧ y ≤ 100 ∧ 0 ≤ z ∧ z ≤ 2 ∧ p = z + 1 ∧ k < is.length ∧ is.length ≤ 1500) := by
    have := h.nl
    rcases hsane with hs | hs
    · omega
    · exact ⟨by omega, by omega, by omega, by omega, by omega, by omega, by omega, hk, by omega⟩
  have hp1 : p = z + 1 := HB.out.2.2.2.2.2.2.1
  have HI := hid hi
  have HX : Hid (tg T k = ⟨x, y, z + 1⟩) := by show _ = _; rw [hx, hp1]
  have HOk := hid hok
  have HF := hid (And.intro hbc (And.intro hin hall))
  have e0 := cell_of_heap h.blk 0
  have e1 := cell_of_heap h.blk 1
  have e2 := cell_of_heap h.blk 2
  have e3 := cell_of_heap h.blk 3
  simp at e0 e1 e2 e3
  obtain ⟨V, hV⟩ : ∃ V, W.alloc (.cells #[.int .i64 19, .int .i64 a, .int .i64 b, .int .i64 c] 40) = V := ⟨_, rfl⟩
  rw [hV] at HA hV1
  have HA' := hid HA
  have HV := hid hV
  have HV1 := hid hV1
  have HS0 := hid (StC.of HA)
  have q0 : (0 : Int) ≤ (k : Int) := by omega
  have q1 : (k : Int) < (is.length : Int) := by omega
  have w1 : wrap64 ((k : Int) + 1) = (k : Int) + 1 := by rw [wrap64]; have := HB.out; omega
  have w2 : wrap64 (x + 1) = x + 1 := by rw [wrap64]; have := HB.out; omega
  have w3 : wrap64 (x + 2) = x + 2 := by rw [wrap64]; have := HB.out; omega
  have w4 : wrap64 (y + 1) = y + 1 := by rw [wrap64]; have := HB.out; omega
  have w5 : wrap64 (y - 1) = y - 1 := by rw [wrap64]; have := HB.out; omega
  have w6 : wrap64 (x - 1) = x - 1 := by rw [wrap64]; have := HB.out; omega
  have HPo := hid (pops_19 V)
  clear h hin hall hbc hinW hk hp hi hok hpz hsane u1 u2 u3 hx hz hp1 hV HA hV1
  go_enter Tryd.func23, Tryd.ntmps23
  go_upto_region 1 with fail
  rw [HV.out]
  clear HV c0 c1 c2 c3 e0 e1 e2 e3 d1 d2 d3
  have hcell := HA'.out.cells (k := k) HB.out.2.2.2.2.2.2.2.1
  rw [HX.out] at hcell
  have u0 : ¬ ((⟨x, y, z + 1⟩ : Sq).p = 0) := by dsimp only; have := HB.out; omega
  rw [show envV ⟨x, y, z + 1⟩ = x from if_neg u0, show stkV ⟨x, y, z + 1⟩ = y from if_neg u0, show parV ⟨x, y, z + 1⟩ = z from (if_neg u0).trans (Int.add_sub_cancel z 1)] at hcell
  obtain ⟨d1, d2, d3, -, -, -⟩ := hcell
  have e1 := cell_of_heap HA'.out.blk 1
  have e2 := cell_of_heap HA'.out.blk 2
  have e3 := cell_of_heap HA'.out.blk 3
  have e5 := cell_of_heap HA'.out.blk 5
  have z5 := frozen_of_heap HA'.out.blk 5
  have i0 := cell_of_heap HV1.out 0
  have i1 := cell_of_heap HV1.out 1
  have i3 := cell_of_heap HV1.out 3
  simp at e1 e2 e3 e5 i0 i1 i3
  clear u0
  go_wp2_with fail
  refine HPo.out.mono ?_
  rintro e _ ⟨rfl, rfl⟩
  clear d1 d2 d3 e1 e2 e3
  by_cases hpop : y < 1
  · have HZ : Hid (stepZ is T w k = none) := by
      show _ = _
      unfold stepZ
      rw [HI.out, HX.out, if_neg (fun e => by simp [needsZ] at e; omega)]
    go_wp2_with fail
    (try simp only [Exit.inBlock, Exit.then])
    refine bodyPost_ret (results_none rfl _ _ _) rfl ?_
    refine ⟨rfl, ?_⟩
    rw [HZ.out]
    exact HS0.out.flagged
  have HZ : Hid (stepZ is T w k = rz is.length (some (T, w)) [(a, (⟨x, y - 1, z + 1⟩ : Sq)), ((k : Int) + 1, (⟨x + 2, y - 1, z + 1⟩ : Sq))]) := by
    show _ = _
    unfold stepZ
    rw [HI.out, HX.out, if_pos (by simp [needsZ]; omega)]
    simp [exitsZ, Sq.more, Int.sub_eq_add_neg]
  go_wp2_with fail
  refine (come_st HS0.out (a) (x) (y - 1) (z) HB.out.2.2.2.2.1 HB.out.2.2.2.2.2.1).mono ?_
  rintro e V2 ⟨rfl, hs1, hc1⟩
  have HS1 := hid hs1
  have HV2 := hid ((hc1.block _ _ _ HV1.out (by decide) (by decide)).trans HV1.out)
  clear i0 i1 i3
  clear e5 z5
  have i0 := cell_of_heap HV2.out 0
  have i1 := cell_of_heap HV2.out 1
  have i3 := cell_of_heap HV2.out 3
  simp at i0 i1 i3
  clear hs1 hc1 HS0
  go_wp2_with fail
  refine (come_st HS1.out ((k : Int) + 1) (x + 2) (y - 1) (z) HB.out.2.2.2.2.1 HB.out.2.2.2.2.2.1).mono ?_
  rintro e V3 ⟨rfl, hs2, hc2⟩
  have HS2 := hid hs2
  clear hs2 hc2 HS1
  go_wp2_with fail
  (try simp only [Exit.inBlock, Exit.then])
  refine bodyPost_end (results_none rfl _ _ _) rfl ?_
  refine ⟨rfl, ?_⟩
  rw [HZ.out]
  exact HS2.out

set_option maxRecDepth 100000 in
set_option maxHeartbeats 4000000 in
theorem step_20 {W0 : World} {Mb bc oc cc ge gs gp ce cs cp : Nat} {is : List In} {T : List Sq} {w : List Nat} {vw : Value} {W : World} (h : Ck W0 Mb (.slice (some ⟨bc, oc, none⟩) is.length cc) ge gs gp ce cs cp is.length T w vw false W) (hbc : bc < W0.heap.size) (hin : InsAt W0 bc oc is) (hall : ∀ i ∈ is, i.ok = true) (k : Nat) (hk : k < is.length) (hp : 1 ≤ (tg T k).p) (ho : (is.getD k default).op = 20) :
    Calls Tryd.prog 23 #[.pointer (some ⟨Mb, 0, none⟩), .int .i64 (k : Int)] W fun e W' => e = .returned (.tuple #[]) ∧ StC W0 Mb (.slice (some ⟨bc, oc, none⟩) is.length cc) ge gs gp ce cs cp is.length (stepZ is T w k) W' := by
  obtain ⟨i, hi⟩ : ∃ i, is.getD k default = i := ⟨_, rfl⟩
  have hok := all_ok hall hk
  rw [hi] at hok ho
  obtain ⟨op, a, b, c⟩ := i
  dsimp only at ho
  subst ho
  have HA := h.below ((Below.refl W.heap.size W).alloc (Nat.le_refl _) (.cells #[.int .i64 20, .int .i64 a, .int .i64 b, .int .i64 c] 40))
  have hV1 := (MapKept.heap_alloc W (.cells #[.int .i64 20, .int .i64 a, .int .i64 b, .int .i64 c] 40)).1
  have hcell := h.cells (k := k) hk
  have hinW := hin.below h.bel hbc
  have c0 := hinW k hk 0 (by omega)
  have c1 := hinW k hk 1 (by omega)
  have c2 := hinW k hk 2 (by omega)
  have c3 := hinW k hk 3 (by omega)
  rw [hi] at c0 c1 c2 c3
  simp only [In.cell, Nat.add_zero] at c0 c1 c2 c3
  have hpz : ¬ (tg T k).p = 0 := by omega
  have hsane := h.sane _ (tg_mem (show k < T.length by rw [h.len]; exact hk))
  have u1 : envV (tg T k) = (tg T k).n := if_neg hpz
  have u2 : stkV (tg T k) = (tg T k).v := if_neg hpz
  have u3 : parV (tg T k) = (tg T k).p - 1 := if_neg hpz
  rw [u1, u2, u3] at hcell
  obtain ⟨⟨x, y, p⟩, hx⟩ : ∃ s, tg T k = s := ⟨_, rfl⟩
  rw [hx] at hcell hp hsane
  unfold SaneS at hsane
  obtain ⟨z, hz⟩ : ∃ z, p - 1 = z := ⟨_, rfl⟩
  dsimp only at hcell hp hsane
  rw [hz] at hcell
  obtain ⟨d1, d2, d3, -, -, -⟩ := hcell
  have HB : Hid (0 ≤ x ∧ x ≤ 100 ∧ 0 ≤ y ∧ y ≤ 100 ∧ 0 ≤ z ∧ z ≤ 2 ∧ p = z + 1 ∧ k < is.length ∧ is.length ≤ 1500) := by
    have := h.nl
    rcases hsane with hs | hs
    · omega
    · exact ⟨by omega, by omega, by omega, by omega, by omega, by omega, by omega, hk, by omega⟩
  have hp1 : p = z + 1 := HB.out.2.2.2.2.2.2.1
  have HI := hid hi
  have HX : Hid (tg T k = ⟨x, y, z + 1⟩) := by show _ = _; rw [hx, hp1]
  have HOk := hid hok
  have HF := hid (And.intro hbc (And.intro hin hall))
  have e0 := cell_of_heap h.blk 0
  have e1 := cell_of_heap h.blk 1
  have e2 := cell_of_heap h.blk 2
  have e3 := cell_of_heap h.blk 3
  simp at e0 e1 e2 e3
  obtain ⟨V, hV⟩ : ∃ V, W.alloc (.cells #[.int .i64 20, .int .i64 a, .int .i64 b, .int .i64 c] 40) = V := ⟨_, rfl⟩
  rw [hV] at HA hV1
  have HA' := hid HA
  have HV := hid hV
  have HV1 := hid hV1
  have HS0 := hid (StC.of HA)
  have q0 : (0 : Int) ≤ (k : Int) := by omega
  have q1 : (k : Int) < (is.length : Int) := by omega
  have w1 : wrap64 ((k : Int) + 1) = (k : Int) + 1 := by rw [wrap64]; have := HB.out; omega
  have w2 : wrap64 (x + 1) = x + 1 := by rw [wrap64]; have := HB.out; omega
  have w3 : wrap64 (x + 2) = x + 2 := by rw [wrap64]; have := HB.out; omega
  have w4 : wrap64 (y + 1) = y + 1 := by rw [wrap64]; have := HB.out; omega
  have w5 : wrap64 (y - 1) = y - 1 := by rw [wrap64]; have := HB.out; omega
  have w6 : wrap64 (x - 1) = x - 1 := by rw [wrap64]; have := HB.out; omega
  have HPo := hid (pops_20 V)
  clear h hin hall hbc hinW hk hp hi hok hpz hsane u1 u2 u3 hx hz hp1 hV HA hV1
  go_enter Tryd.func23, Tryd.ntmps23
  go_upto_region 1 with fail
  rw [HV.out]
  clear HV c0 c1 c2 c3 e0 e1 e2 e3 d1 d2 d3
  have hcell := HA'.out.cells (k := k) HB.out.2.2.2.2.2.2.2.1
  rw [HX.out] at hcell
  have u0 : ¬ ((⟨x, y, z + 1⟩ : Sq).p = 0) := by dsimp only; have := HB.out; omega
  rw [show envV ⟨x, y, z + 1⟩ = x from if_neg u0, show stkV ⟨x, y, z + 1⟩ = y from if_neg u0, show parV ⟨x, y, z + 1⟩ = z from (if_neg u0).trans (Int.add_sub_cancel z 1)] at hcell
  obtain ⟨d1, d2, d3, -, -, -⟩ := hcell
  have e1 := cell_of_heap HA'.out.blk 1
  have e2 := cell_of_heap HA'.out.blk 2
  have e3 := cell_of_heap HA'.out.blk 3
  have e5 := cell_of_heap HA'.out.blk 5
  have z5 := frozen_of_heap HA'.out.blk 5
  have i0 := cell_of_heap HV1.out 0
  have i1 := cell_of_heap HV1.out 1
  have i3 := cell_of_heap HV1.out 3
  simp at e1 e2 e3 e5 i0 i1 i3
  clear u0
  go_wp2_with fail
  refine HPo.out.mono ?_
  rintro e _ ⟨rfl, rfl⟩
  clear d1 d2 d3 e1 e2 e3
  by_cases hpop : y < 1
  · have HZ : Hid (stepZ is T w k = none) := by
      show _ = _
      unfold stepZ
      rw [HI.out, HX.out, if_neg (fun e => by simp [needsZ] at e; omega)]
    go_wp2_with fail
    (try simp only [Exit.inBlock, Exit.then])
    refine bodyPost_ret (results_none rfl _ _ _) rfl ?_
    refine ⟨rfl, ?_⟩
    rw [HZ.out]
    exact HS0.out.flagged
  have HZ : Hid (stepZ is T w k = rz is.length (some (T, w)) [((k : Int) + 1, (⟨x, y, z + 1⟩ : Sq))]) := by
    show _ = _
    unfold stepZ
    rw [HI.out, HX.out, if_pos (by simp [needsZ]; omega)]
    simp [exitsZ]
  go_wp2_with fail
  refine (come_st HS0.out ((k : Int) + 1) (x) (y) (z) HB.out.2.2.2.2.1 HB.out.2.2.2.2.2.1).mono ?_
  rintro e V2 ⟨rfl, hs1, hc1⟩
  have HS1 := hid hs1
  clear hs1 hc1 HS0
  go_wp2_with fail
  (try simp only [Exit.inBlock, Exit.then])
  refine bodyPost_end (results_none rfl _ _ _) rfl ?_
  refine ⟨rfl, ?_⟩
  rw [HZ.out]
  exact HS1.out

set_option maxRecDepth 100000 in
set_option maxHeartbeats 4000000 in
theorem step_21 {W0 : World} {Mb bc oc cc ge gs gp ce cs cp : Nat} {is : List In} {T : List Sq} {w : List Nat} {vw : Value} {W : World} (h : Ck W0 Mb (.slice (some ⟨bc, oc, none⟩) is.length cc) ge gs gp ce cs cp is.length T w vw false W) (hbc : bc < W0.heap.size) (hin : InsAt W0 bc oc is) (hall : ∀ i ∈ is, i.ok = true) (k : Nat) (hk : k < is.length) (hp : 1 ≤ (tg T k).p) (ho : (is.getD k default).op = 21) :
    Calls Tryd.prog 23 #[.pointer (some ⟨Mb, 0, none⟩), .int .i64 (k : Int)] W fun e W' => e = .returned (.tuple #[]) ∧ StC W0 Mb (.slice (some ⟨bc, oc, none⟩) is.length cc) ge gs gp ce cs cp is.length (stepZ is T w k) W' := by
  obtain ⟨i, hi⟩ : ∃ i, is.getD k default = i := ⟨_, rfl⟩
  have hok := all_ok hall hk
  rw [hi] at hok ho
  obtain ⟨op, a, b, c⟩ := i
  dsimp only at ho
  subst ho
  have HA := h.below ((Below.refl W.heap.size W).alloc (Nat.le_refl _) (.cells #[.int .i64 21, .int .i64 a, .int .i64 b, .int .i64 c] 40))
  have hV1 := (MapKept.heap_alloc W (.cells #[.int .i64 21, .int .i64 a, .int .i64 b, .int .i64 c] 40)).1
  have hcell := h.cells (k := k) hk
  have hinW := hin.below h.bel hbc
  have c0 := hinW k hk 0 (by omega)
  have c1 := hinW k hk 1 (by omega)
  have c2 := hinW k hk 2 (by omega)
  have c3 := hinW k hk 3 (by omega)
  rw [hi] at c0 c1 c2 c3
  simp only [In.cell, Nat.add_zero] at c0 c1 c2 c3
  have hpz : ¬ (tg T k).p = 0 := by omega
  have hsane := h.sane _ (tg_mem (show k < T.length by rw [h.len]; exact hk))
  have u1 : envV (tg T k) = (tg T k).n := if_neg hpz
  have u2 : stkV (tg T k) = (tg T k).v := if_neg hpz
  have u3 : parV (tg T k) = (tg T k).p - 1 := if_neg hpz
  rw [u1, u2, u3] at hcell
  obtain ⟨⟨x, y, p⟩, hx⟩ : ∃ s, tg T k = s := ⟨_, rfl⟩
  rw [hx] at hcell hp hsane
  unfold SaneS at hsane
  obtain ⟨z, hz⟩ : ∃ z, p - 1 = z := ⟨_, rfl⟩
  dsimp only at hcell hp hsane
  rw [hz] at hcell
  obtain ⟨d1, d2, d3, -, -, -⟩ := hcell
  have HB : Hid (0 ≤ x ∧ x ≤ 100 ∧ 0 ≤ y ∧ y ≤ 100 ∧ 0 ≤ z ∧ z ≤ 2 ∧ p = z + 1 ∧ k < is.length ∧ is.length ≤ 1500) := by
    have := h.nl
    rcases hsane with hs | hs
    · omega
    · exact ⟨by omega, by omega, by omega, by omega, by omega, by omega, by omega, hk, by omega⟩
  have hp1 : p = z + 1 := HB.out.2.2.2.2.2.2.1
  have HI := hid hi
  have HX : Hid (tg T k = ⟨x, y, z + 1⟩) := by show _ = _; rw [hx, hp1]
  have HOk := hid hok
  have HF := hid (And.intro hbc (And.intro hin hall))
  have e0 := cell_of_heap h.blk 0
  have e1 := cell_of_heap h.blk 1
  have e2 := cell_of_heap h.blk 2
  have e3 := cell_of_heap h.blk 3
  simp at e0 e1 e2 e3
  obtain ⟨V, hV⟩ : ∃ V, W.alloc (.cells #[.int .i64 21, .int .i64 a, .int .i64 b, .int .i64 c] 40) = V := ⟨_, rfl⟩
  rw [hV] at HA hV1
  have HA' := hid HA
  have HV := hid hV
  have HV1 := hid hV1
  have HS0 := hid (StC.of HA)
  have q0 : (0 : Int) ≤ (k : Int) := by omega
  have q1 : (k : Int) < (is.length : Int) := by omega
  have w1 : wrap64 ((k : Int) + 1) = (k : Int) + 1 := by rw [wrap64]; have := HB.out; omega
  have w2 : wrap64 (x + 1) = x + 1 := by rw [wrap64]; have := HB.out; omega
  have w3 : wrap64 (x + 2) = x + 2 := by rw [wrap64]; have := HB.out; omega
  have w4 : wrap64 (y + 1) = y + 1 := by rw [wrap64]; have := HB.out; omega
  have w5 : wrap64 (y - 1) = y - 1 := by rw [wrap64]; have := HB.out; omega
  have w6 : wrap64 (x - 1) = x - 1 := by rw [wrap64]; have := HB.out; omega
  have HPo := hid (pops_21 V)
  clear h hin hall hbc hinW hk hp hi hok hpz hsane u1 u2 u3 hx hz hp1 hV HA hV1
  go_enter Tryd.func23, Tryd.ntmps23
  go_upto_region 1 with fail
  rw [HV.out]
  clear HV c0 c1 c2 c3 e0 e1 e2 e3 d1 d2 d3
  have hcell := HA'.out.cells (k := k) HB.out.2.2.2.2.2.2.2.1
  rw [HX.out] at hcell
  have u0 : ¬ ((⟨x, y, z + 1⟩ : Sq).p = 0) := by dsimp only; have := HB.out; omega
  rw [show envV ⟨x, y, z + 1⟩ = x from if_neg u0, show stkV ⟨x, y, z + 1⟩ = y from if_neg u0, show parV ⟨x, y, z + 1⟩ = z from (if_neg u0).trans (Int.add_sub_cancel z 1)] at hcell
  obtain ⟨d1, d2, d3, -, -, -⟩ := hcell
  have e1 := cell_of_heap HA'.out.blk 1
  have e2 := cell_of_heap HA'.out.blk 2
  have e3 := cell_of_heap HA'.out.blk 3
  have e5 := cell_of_heap HA'.out.blk 5
  have z5 := frozen_of_heap HA'.out.blk 5
  have i0 := cell_of_heap HV1.out 0
  have i1 := cell_of_heap HV1.out 1
  have i3 := cell_of_heap HV1.out 3
  simp at e1 e2 e3 e5 i0 i1 i3
  clear u0
  go_wp2_with fail
  refine HPo.out.mono ?_
  rintro e _ ⟨rfl, rfl⟩
  clear d1 d2 d3 e1 e2 e3
  have hy0 : ¬ y < 0 := by have := HB.out; omega
  by_cases hv : tableZ is a = true
  case neg =>
    have HZ : Hid (stepZ is T w k = none) := by
      show _ = _
      unfold stepZ
      rw [HI.out, HX.out, if_neg (fun e => by simp [needsZ] at e; exact hv e)]
    go_wp2_with fail
    refine (table_st HS0.out HF.out.1 HF.out.2.1 HF.out.2.2 a x (by have := ok_nums HOk.out (by dsimp only; decide) (by dsimp only; decide) (by dsimp only; decide); exact this.1) HB.out.1 HB.out.2.1).mono ?_
    rintro e V2 ⟨rfl, hs1, hc1⟩
    have HS1 := hid hs1
    have HV2 := hid ((hc1.block _ _ _ HV1.out (by decide) (by decide)).trans HV1.out)
    clear i0 i1 i3
    clear e5 z5
    have i0 := cell_of_heap HV2.out 0
    have i1 := cell_of_heap HV2.out 1
    have i3 := cell_of_heap HV2.out 3
    simp at i0 i1 i3
    clear hs1 hc1 HS0
    go_wp2_with fail
    refine (come_st HS1.out ((k : Int) + 1) (x) (0) (2) (by decide) (by decide)).mono ?_
    rintro e V3 ⟨rfl, hs2, hc2⟩
    have HS2 := hid hs2
    have HV3 := hid ((hc2.block _ _ _ HV2.out (by decide) (by decide)).trans HV2.out)
    clear i0 i1 i3
    have i0 := cell_of_heap HV3.out 0
    have i1 := cell_of_heap HV3.out 1
    have i3 := cell_of_heap HV3.out 3
    simp at i0 i1 i3
    clear hs2 hc2 HS1
    go_wp2_with fail
    refine (come_st HS2.out (c) (x) (y + 1) (z) HB.out.2.2.2.2.1 HB.out.2.2.2.2.2.1).mono ?_
    rintro e V4 ⟨rfl, hs3, hc3⟩
    have HS3 := hid hs3
    clear hs3 hc3 HS2
    go_wp2_with fail
    (try simp only [Exit.inBlock, Exit.then])
    refine bodyPost_end (results_none rfl _ _ _) rfl ?_
    refine ⟨rfl, ?_⟩
    rw [HZ.out]
    have := HS3.out
    rw [tabZ, if_neg hv] at this
    exact this
  have HZ : Hid (stepZ is T w k = rz is.length (some (T, w)) (exitsZ is k ⟨21, a, b, c⟩ ⟨x, y, z + 1⟩)) := by
    show _ = _
    unfold stepZ
    rw [HI.out, HX.out, if_pos (by simp [needsZ, hv])]
  go_wp2_with fail
  refine (table_st HS0.out HF.out.1 HF.out.2.1 HF.out.2.2 a x (by have := ok_nums HOk.out (by dsimp only; decide) (by dsimp only; decide) (by dsimp only; decide); exact this.1) HB.out.1 HB.out.2.1).mono ?_
  rintro e V2 ⟨rfl, hs1, hc1⟩
  have HS1 := hid hs1
  have HV2 := hid ((hc1.block _ _ _ HV1.out (by decide) (by decide)).trans HV1.out)
  clear i0 i1 i3
  clear e5 z5
  have i0 := cell_of_heap HV2.out 0
  have i1 := cell_of_heap HV2.out 1
  have i3 := cell_of_heap HV2.out 3
  simp at i0 i1 i3
  clear hs1 hc1 HS0
  go_wp2_with fail
  refine (come_st HS1.out ((k : Int) + 1) (x) (0) (2) (by decide) (by decide)).mono ?_
  rintro e V3 ⟨rfl, hs2, hc2⟩
  have HS2 := hid hs2
  have HV3 := hid ((hc2.block _ _ _ HV2.out (by decide) (by decide)).trans HV2.out)
  clear i0 i1 i3
  have i0 := cell_of_heap HV3.out 0
  have i1 := cell_of_heap HV3.out 1
  have i3 := cell_of_heap HV3.out 3
  simp at i0 i1 i3
  clear hs2 hc2 HS1
  go_wp2_with fail
  refine (come_st HS2.out (c) (x) (y + 1) (z) HB.out.2.2.2.2.1 HB.out.2.2.2.2.2.1).mono ?_
  rintro e V4 ⟨rfl, hs3, hc3⟩
  have HS3 := hid hs3
  clear hs3 hc3 HS2
  go_wp2_with fail
  (try simp only [Exit.inBlock, Exit.then])
  refine bodyPost_end (results_none rfl _ _ _) rfl ?_
  have hex : exitsZ is k ⟨21, a, b, c⟩ ⟨x, y, z + 1⟩ = (((is.getD a.toNat default).a, (⟨x + 1, 0, 2⟩ : Sq)) :: (clausesZ is a).map (fun c => (c.b, (⟨x + 2, 0, 2⟩ : Sq)))) ++ [((k : Int) + 1, ⟨x, 0, 3⟩), (c, ⟨x, y + 1, z + 1⟩)] := by simp [exitsZ, handleZ, Sq.more]
  refine ⟨rfl, ?_⟩
  rw [HZ.out, hex, rz_app]
  have := HS3.out
  rw [tabZ, if_pos hv] at this
  exact this

set_option maxRecDepth 100000 in
set_option maxHeartbeats 4000000 in
theorem step_22 {W0 : World} {Mb bc oc cc ge gs gp ce cs cp : Nat} {is : List In} {T : List Sq} {w : List Nat} {vw : Value} {W : World} (h : Ck W0 Mb (.slice (some ⟨bc, oc, none⟩) is.length cc) ge gs gp ce cs cp is.length T w vw false W) (hbc : bc < W0.heap.size) (hin : InsAt W0 bc oc is) (hall : ∀ i ∈ is, i.ok = true) (k : Nat) (hk : k < is.length) (hp : 1 ≤ (tg T k).p) (ho : (is.getD k default).op = 22) :
    Calls Tryd.prog 23 #[.pointer (some ⟨Mb, 0, none⟩), .int .i64 (k : Int)] W fun e W' => e = .returned (.tuple #[]) ∧ StC W0 Mb (.slice (some ⟨bc, oc, none⟩) is.length cc) ge gs gp ce cs cp is.length (stepZ is T w k) W' := by
  obtain ⟨i, hi⟩ : ∃ i, is.getD k default = i := ⟨_, rfl⟩
  have hok := all_ok hall hk
  rw [hi] at hok ho
  obtain ⟨op, a, b, c⟩ := i
  dsimp only at ho
  subst ho
  have HA := h.below ((Below.refl W.heap.size W).alloc (Nat.le_refl _) (.cells #[.int .i64 22, .int .i64 a, .int .i64 b, .int .i64 c] 40))
  have hV1 := (MapKept.heap_alloc W (.cells #[.int .i64 22, .int .i64 a, .int .i64 b, .int .i64 c] 40)).1
  have hcell := h.cells (k := k) hk
  have hinW := hin.below h.bel hbc
  have c0 := hinW k hk 0 (by omega)
  have c1 := hinW k hk 1 (by omega)
  have c2 := hinW k hk 2 (by omega)
  have c3 := hinW k hk 3 (by omega)
  rw [hi] at c0 c1 c2 c3
  simp only [In.cell, Nat.add_zero] at c0 c1 c2 c3
  have hpz : ¬ (tg T k).p = 0 := by omega
  have hsane := h.sane _ (tg_mem (show k < T.length by rw [h.len]; exact hk))
  have u1 : envV (tg T k) = (tg T k).n := if_neg hpz
  have u2 : stkV (tg T k) = (tg T k).v := if_neg hpz
  have u3 : parV (tg T k) = (tg T k).p - 1 := if_neg hpz
  rw [u1, u2, u3] at hcell
  obtain ⟨⟨x, y, p⟩, hx⟩ : ∃ s, tg T k = s := ⟨_, rfl⟩
  rw [hx] at hcell hp hsane
  unfold SaneS at hsane
  obtain ⟨z, hz⟩ : ∃ z, p - 1 = z := ⟨_, rfl⟩
  dsimp only at hcell hp hsane
  rw [hz] at hcell
  obtain ⟨d1, d2, d3, -, -, -⟩ := hcell
  have HB : Hid (0 ≤ x ∧ x ≤ 100 ∧ 0 ≤ y ∧ y ≤ 100 ∧ 0 ≤ z ∧ z ≤ 2 ∧ p = z + 1 ∧ k < is.length ∧ is.length ≤ 1500) := by
    have := h.nl
    rcases hsane with hs | hs
    · omega
    · exact ⟨by omega, by omega, by omega, by omega, by omega, by omega, by omega, hk, by omega⟩
  have hp1 : p = z + 1 := HB.out.2.2.2.2.2.2.1
  have HI := hid hi
  have HX : Hid (tg T k = ⟨x, y, z + 1⟩) := by show _ = _; rw [hx, hp1]
  have HOk := hid hok
  have HF := hid (And.intro hbc (And.intro hin hall))
  have e0 := cell_of_heap h.blk 0
  have e1 := cell_of_heap h.blk 1
  have e2 := cell_of_heap h.blk 2
  have e3 := cell_of_heap h.blk 3
  simp at e0 e1 e2 e3
  obtain ⟨V, hV⟩ : ∃ V, W.alloc (.cells #[.int .i64 22, .int .i64 a, .int .i64 b, .int .i64 c] 40) = V := ⟨_, rfl⟩
  rw [hV] at HA hV1
  have HA' := hid HA
  have HV := hid hV
  have HV1 := hid hV1
  have HS0 := hid (StC.of HA)
  have q0 : (0 : Int) ≤ (k : Int) := by omega
  have q1 : (k : Int) < (is.length : Int) := by omega
  have w1 : wrap64 ((k : Int) + 1) = (k : Int) + 1 := by rw [wrap64]; have := HB.out; omega
  have w2 : wrap64 (x + 1) = x + 1 := by rw [wrap64]; have := HB.out; omega
  have w3 : wrap64 (x + 2) = x + 2 := by rw [wrap64]; have := HB.out; omega
  have w4 : wrap64 (y + 1) = y + 1 := by rw [wrap64]; have := HB.out; omega
  have w5 : wrap64 (y - 1) = y - 1 := by rw [wrap64]; have := HB.out; omega
  have w6 : wrap64 (x - 1) = x - 1 := by rw [wrap64]; have := HB.out; omega
  have HPo := hid (pops_22 V)
  clear h hin hall hbc hinW hk hp hi hok hpz hsane u1 u2 u3 hx hz hp1 hV HA hV1
  go_enter Tryd.func23, Tryd.ntmps23
  go_upto_region 1 with fail
  rw [HV.out]
  clear HV c0 c1 c2 c3 e0 e1 e2 e3 d1 d2 d3
  have hcell := HA'.out.cells (k := k) HB.out.2.2.2.2.2.2.2.1
  rw [HX.out] at hcell
  have u0 : ¬ ((⟨x, y, z + 1⟩ : Sq).p = 0) := by dsimp only; have := HB.out; omega
  rw [show envV ⟨x, y, z + 1⟩ = x from if_neg u0, show stkV ⟨x, y, z + 1⟩ = y from if_neg u0, show parV ⟨x, y, z + 1⟩ = z from (if_neg u0).trans (Int.add_sub_cancel z 1)] at hcell
  obtain ⟨d1, d2, d3, -, -, -⟩ := hcell
  have e1 := cell_of_heap HA'.out.blk 1
  have e2 := cell_of_heap HA'.out.blk 2
  have e3 := cell_of_heap HA'.out.blk 3
  have e5 := cell_of_heap HA'.out.blk 5
  have z5 := frozen_of_heap HA'.out.blk 5
  have i0 := cell_of_heap HV1.out 0
  have i1 := cell_of_heap HV1.out 1
  have i3 := cell_of_heap HV1.out 3
  simp at e1 e2 e3 e5 i0 i1 i3
  clear u0
  go_wp2_with fail
  refine HPo.out.mono ?_
  rintro e _ ⟨rfl, rfl⟩
  clear d1 d2 d3 e1 e2 e3
  by_cases hpop : y < 1
  · have HZ : Hid (stepZ is T w k = none) := by
      show _ = _
      unfold stepZ
      rw [HI.out, HX.out, if_neg (fun e => by simp [needsZ] at e; omega)]
    go_wp2_with fail
    (try simp only [Exit.inBlock, Exit.then])
    refine bodyPost_ret (results_none rfl _ _ _) rfl ?_
    refine ⟨rfl, ?_⟩
    rw [HZ.out]
    exact HS0.out.flagged
  have HZ : Hid (stepZ is T w k = rz is.length (some (T, w)) [((k : Int) + 1, (⟨x, y, z + 1⟩ : Sq))]) := by
    show _ = _
    unfold stepZ
    rw [HI.out, HX.out, if_pos (by simp [needsZ]; omega)]
    simp [exitsZ]
  go_wp2_with fail
  refine (come_st HS0.out ((k : Int) + 1) (x) (y) (z) HB.out.2.2.2.2.1 HB.out.2.2.2.2.2.1).mono ?_
  rintro e V2 ⟨rfl, hs1, hc1⟩
  have HS1 := hid hs1
  clear hs1 hc1 HS0
  go_wp2_with fail
  (try simp only [Exit.inBlock, Exit.then])
  refine bodyPost_end (results_none rfl _ _ _) rfl ?_
  refine ⟨rfl, ?_⟩
  rw [HZ.out]
  exact HS1.out

set_option maxRecDepth 100000 in
set_option maxHeartbeats 4000000 in
theorem step_23 {W0 : World} {Mb bc oc cc ge gs gp ce cs cp : Nat} {is : List In} {T : List Sq} {w : List Nat} {vw : Value} {W : World} (h : Ck W0 Mb (.slice (some ⟨bc, oc, none⟩) is.length cc) ge gs gp ce cs cp is.length T w vw false W) (hbc : bc < W0.heap.size) (hin : InsAt W0 bc oc is) (hall : ∀ i ∈ is, i.ok = true) (k : Nat) (hk : k < is.length) (hp : 1 ≤ (tg T k).p) (ho : (is.getD k default).op = 23) :
    Calls Tryd.prog 23 #[.pointer (some ⟨Mb, 0, none⟩), .int .i64 (k : Int)] W fun e W' => e = .returned (.tuple #[]) ∧ StC W0 Mb (.slice (some ⟨bc, oc, none⟩) is.length cc) ge gs gp ce cs cp is.length (stepZ is T w k) W' := by
  obtain ⟨i, hi⟩ : ∃ i, is.getD k default = i := ⟨_, rfl⟩
  have hok := all_ok hall hk
  rw [hi] at hok ho
  obtain ⟨op, a, b, c⟩ := i
  dsimp only at ho
  subst ho
  have HA := h.below ((Below.refl W.heap.size W).alloc (Nat.le_refl _) (.cells #[.int .i64 23, .int .i64 a, .int .i64 b, .int .i64 c] 40))
  have hV1 := (MapKept.heap_alloc W (.cells #[.int .i64 23, .int .i64 a, .int .i64 b, .int .i64 c] 40)).1
  have hcell := h.cells (k := k) hk
  have hinW := hin.below h.bel hbc
  have c0 := hinW k hk 0 (by omega)
  have c1 := hinW k hk 1 (by omega)
  have c2 := hinW k hk 2 (by omega)
  have c3 := hinW k hk 3 (by omega)
  rw [hi] at c0 c1 c2 c3
  simp only [In.cell, Nat.add_zero] at c0 c1 c2 c3
  have hpz : ¬ (tg T k).p = 0 := by omega
  have hsane := h.sane _ (tg_mem (show k < T.length by rw [h.len]; exact hk))
  have u1 : envV (tg T k) = (tg T k).n := if_neg hpz
  have u2 : stkV (tg T k) = (tg T k).v := if_neg hpz
  have u3 : parV (tg T k) = (tg T k).p - 1 := if_neg hpz
  rw [u1, u2, u3] at hcell
  obtain ⟨⟨x, y, p⟩, hx⟩ : ∃ s, tg T k = s := ⟨_, rfl⟩
  rw [hx] at hcell hp hsane
  unfold SaneS at hsane
  obtain ⟨z, hz⟩ : ∃ z, p - 1 = z := ⟨_, rfl⟩
  dsimp only at hcell hp hsane
  rw [hz] at hcell
  obtain ⟨d1, d2, d3, -, -, -⟩ := hcell
  have HB : Hid (0 ≤ x ∧ x ≤ 100 ∧ 0 ≤ y ∧ y ≤ 100 ∧ 0 ≤ z ∧ z ≤ 2 ∧ p = z + 1 ∧ k < is.length ∧ is.length ≤ 1500) := by
    have := h.nl
    rcases hsane with hs | hs
    · omega
    · exact ⟨by omega, by omega, by omega, by omega, by omega, by omega, by omega, hk, by omega⟩
  have hp1 : p = z + 1 := HB.out.2.2.2.2.2.2.1
  have HI := hid hi
  have HX : Hid (tg T k = ⟨x, y, z + 1⟩) := by show _ = _; rw [hx, hp1]
  have HOk := hid hok
  have HF := hid (And.intro hbc (And.intro hin hall))
  have e0 := cell_of_heap h.blk 0
  have e1 := cell_of_heap h.blk 1
  have e2 := cell_of_heap h.blk 2
  have e3 := cell_of_heap h.blk 3
  simp at e0 e1 e2 e3
  obtain ⟨V, hV⟩ : ∃ V, W.alloc (.cells #[.int .i64 23, .int .i64 a, .int .i64 b, .int .i64 c] 40) = V := ⟨_, rfl⟩
  rw [hV] at HA hV1
  have HA' := hid HA
  have HV := hid hV
  have HV1 := hid hV1
  have HS0 := hid (StC.of HA)
  have q0 : (0 : Int) ≤ (k : Int) := by omega
  have q1 : (k : Int) < (is.length : Int) := by omega
  have w1 : wrap64 ((k : Int) + 1) = (k : Int) + 1 := by rw [wrap64]; have := HB.out; omega
  have w2 : wrap64 (x + 1) = x + 1 := by rw [wrap64]; have := HB.out; omega
  have w3 : wrap64 (x + 2) = x + 2 := by rw [wrap64]; have := HB.out; omega
  have w4 : wrap64 (y + 1) = y + 1 := by rw [wrap64]; have := HB.out; omega
  have w5 : wrap64 (y - 1) = y - 1 := by rw [wrap64]; have := HB.out; omega
  have w6 : wrap64 (x - 1) = x - 1 := by rw [wrap64]; have := HB.out; omega
  have HPo := hid (pops_23 V)
  clear h hin hall hbc hinW hk hp hi hok hpz hsane u1 u2 u3 hx hz hp1 hV HA hV1
  go_enter Tryd.func23, Tryd.ntmps23
  go_upto_region 1 with fail
  rw [HV.out]
  clear HV c0 c1 c2 c3 e0 e1 e2 e3 d1 d2 d3
  have hcell := HA'.out.cells (k := k) HB.out.2.2.2.2.2.2.2.1
  rw [HX.out] at hcell
  have u0 : ¬ ((⟨x, y, z + 1⟩ : Sq).p = 0) := by dsimp only; have := HB.out; omega
  rw [show envV ⟨x, y, z + 1⟩ = x from if_neg u0, show stkV ⟨x, y, z + 1⟩ = y from if_neg u0, show parV ⟨x, y, z + 1⟩ = z from (if_neg u0).trans (Int.add_sub_cancel z 1)] at hcell
  obtain ⟨d1, d2, d3, -, -, -⟩ := hcell
  have e1 := cell_of_heap HA'.out.blk 1
  have e2 := cell_of_heap HA'.out.blk 2
  have e3 := cell_of_heap HA'.out.blk 3
  have e5 := cell_of_heap HA'.out.blk 5
  have z5 := frozen_of_heap HA'.out.blk 5
  have i0 := cell_of_heap HV1.out 0
  have i1 := cell_of_heap HV1.out 1
  have i3 := cell_of_heap HV1.out 3
  simp at e1 e2 e3 e5 i0 i1 i3
  clear u0
  go_wp2_with fail
  refine HPo.out.mono ?_
  rintro e _ ⟨rfl, rfl⟩
  clear d1 d2 d3 e1 e2 e3
  by_cases hpop : y < 1
  · have HZ : Hid (stepZ is T w k = none) := by
      show _ = _
      unfold stepZ
      rw [HI.out, HX.out, if_neg (fun e => by simp [needsZ] at e; omega)]
    go_wp2_with fail
    (try simp only [Exit.inBlock, Exit.then])
    refine bodyPost_ret (results_none rfl _ _ _) rfl ?_
    refine ⟨rfl, ?_⟩
    rw [HZ.out]
    exact HS0.out.flagged
  by_cases f1 : y = 1
  case neg =>
    have HZ : Hid (stepZ is T w k = none) := by
      show _ = _
      unfold stepZ
      rw [HI.out, HX.out, if_neg (fun e => by simp [needsZ] at e; omega)]
    have f1n : (y != 1) = true := by simp [f1]
    go_wp2_with fail
    (try simp only [Exit.inBlock, Exit.then])
    refine bodyPost_end (results_none rfl _ _ _) rfl ?_
    refine ⟨rfl, ?_⟩
    rw [HZ.out]
    exact HS0.out.flagged
  by_cases f2 : z = 2
  case neg =>
    have HZ : Hid (stepZ is T w k = none) := by
      show _ = _
      unfold stepZ
      rw [HI.out, HX.out, if_neg (fun e => by simp [needsZ] at e; omega)]
    have f1n : (y != 1) = false := by simp [f1]
    have f2n : (z != 2) = true := by simp [f2]
    clear f1
    go_wp2_with fail
    (try simp only [Exit.inBlock, Exit.then])
    refine bodyPost_end (results_none rfl _ _ _) rfl ?_
    refine ⟨rfl, ?_⟩
    rw [HZ.out]
    exact HS0.out.flagged
  have HZ : Hid (stepZ is T w k = some (T, w)) := by
    show _ = _
    unfold stepZ
    rw [HI.out, HX.out, if_pos (by simp [needsZ]; omega)]
    rfl
  have f1n : (y != 1) = false := by simp [f1]
  have f2n : (z != 2) = false := by simp [f2]
  clear f1 f2
  go_wp2_with fail
  (try simp only [Exit.inBlock, Exit.then])
  refine bodyPost_end (results_none rfl _ _ _) rfl ?_
  refine ⟨rfl, ?_⟩
  rw [HZ.out]
  exact StC.of (HA'.out.flag false)

set_option maxRecDepth 100000 in
set_option maxHeartbeats 4000000 in
theorem step_24 {W0 : World} {Mb bc oc cc ge gs gp ce cs cp : Nat} {is : List In} {T : List Sq} {w : List Nat} {vw : Value} {W : World} (h : Ck W0 Mb (.slice (some ⟨bc, oc, none⟩) is.length cc) ge gs gp ce cs cp is.length T w vw false W) (hbc : bc < W0.heap.size) (hin : InsAt W0 bc oc is) (hall : ∀ i ∈ is, i.ok = true) (k : Nat) (hk : k < is.length) (hp : 1 ≤ (tg T k).p) (ho : (is.getD k default).op = 24) :
    Calls Tryd.prog 23 #[.pointer (some ⟨Mb, 0, none⟩), .int .i64 (k : Int)] W fun e W' => e = .returned (.tuple #[]) ∧ StC W0 Mb (.slice (some ⟨bc, oc, none⟩) is.length cc) ge gs gp ce cs cp is.length (stepZ is T w k) W' := by
  obtain ⟨i, hi⟩ : ∃ i, is.getD k default = i := ⟨_, rfl⟩
  have hok := all_ok hall hk
  rw [hi] at hok ho
  obtain ⟨op, a, b, c⟩ := i
  dsimp only at ho
  subst ho
  have HA := h.below ((Below.refl W.heap.size W).alloc (Nat.le_refl _) (.cells #[.int .i64 24, .int .i64 a, .int .i64 b, .int .i64 c] 40))
  have hV1 := (MapKept.heap_alloc W (.cells #[.int .i64 24, .int .i64 a, .int .i64 b, .int .i64 c] 40)).1
  have hcell := h.cells (k := k) hk
  have hinW := hin.below h.bel hbc
  have c0 := hinW k hk 0 (by omega)
  have c1 := hinW k hk 1 (by omega)
  have c2 := hinW k hk 2 (by omega)
  have c3 := hinW k hk 3 (by omega)
  rw [hi] at c0 c1 c2 c3
  simp only [In.cell, Nat.add_zero] at c0 c1 c2 c3
  have hpz : ¬ (tg T k).p = 0 := by omega
  have hsane := h.sane _ (tg_mem (show k < T.length by rw [h.len]; exact hk))
  have u1 : envV (tg T k) = (tg T k).n := if_neg hpz
  have u2 : stkV (tg T k) = (tg T k).v := if_neg hpz
  have u3 : parV (tg T k) = (tg T k).p - 1 := if_neg hpz
  rw [u1, u2, u3] at hcell
  obtain ⟨⟨x, y, p⟩, hx⟩ : ∃ s, tg T k = s := ⟨_, rfl⟩
  rw [hx] at hcell hp hsane
  unfold SaneS at hsane
  obtain ⟨z, hz⟩ : ∃ z, p - 1 = z := ⟨_, rfl⟩
  dsimp only at hcell hp hsane
  rw [hz] at hcell
  obtain ⟨d1, d2, d3, -, -, -⟩ := hcell
  have HB : Hid (0 ≤ x ∧ x ≤ 100 ∧ 0 ≤ y ∧ y ≤ 100 ∧ 0 ≤ z ∧ z ≤ 2 ∧ p = z + 1 ∧ k < is.length ∧ is.length ≤ 1500) := by
    have := h.nl
    rcases hsane with hs | hs
    · omega
    · exact ⟨by omega, by omega, by omega, by omega, by omega, by omega, by omega, hk, by omega⟩
  have hp1 : p = z + 1 := HB.out.2.2.2.2.2.2.1
  have HI := hid hi
  have HX : Hid (tg T k = ⟨x, y, z + 1⟩) := by show _ = _; rw [hx, hp1]
  have HOk := hid hok
  have HF := hid (And.intro hbc (And.intro hin hall))
  have e0 := cell_of_heap h.blk 0
  have e1 := cell_of_heap h.blk 1
  have e2 := cell_of_heap h.blk 2
  have e3 := cell_of_heap h.blk 3
  simp at e0 e1 e2 e3
  obtain ⟨V, hV⟩ : ∃ V, W.alloc (.cells #[.int .i64 24, .int .i64 a, .int .i64 b, .int .i64 c] 40) = V := ⟨_, rfl⟩
  rw [hV] at HA hV1
  have HA' := hid HA
  have HV := hid hV
  have HV1 := hid hV1
  have HS0 := hid (StC.of HA)
  have q0 : (0 : Int) ≤ (k : Int) := by omega
  have q1 : (k : Int) < (is.length : Int) := by omega
  have w1 : wrap64 ((k : Int) + 1) = (k : Int) + 1 := by rw [wrap64]; have := HB.out; omega
  have w2 : wrap64 (x + 1) = x + 1 := by rw [wrap64]; have := HB.out; omega
  have w3 : wrap64 (x + 2) = x + 2 := by rw [wrap64]; have := HB.out; omega
  have w4 : wrap64 (y + 1) = y + 1 := by rw [wrap64]; have := HB.out; omega
  have w5 : wrap64 (y - 1) = y - 1 := by rw [wrap64]; have := HB.out; omega
  have w6 : wrap64 (x - 1) = x - 1 := by rw [wrap64]; have := HB.out; omega
  have HPo := hid (pops_24 V)
  clear h hin hall hbc hinW hk hp hi hok hpz hsane u1 u2 u3 hx hz hp1 hV HA hV1
  go_enter Tryd.func23, Tryd.ntmps23
  go_upto_region 1 with fail
  rw [HV.out]
  clear HV c0 c1 c2 c3 e0 e1 e2 e3 d1 d2 d3
  have hcell := HA'.out.cells (k := k) HB.out.2.2.2.2.2.2.2.1
  rw [HX.out] at hcell
  have u0 : ¬ ((⟨x, y, z + 1⟩ : Sq).p = 0) := by dsimp only; have := HB.out; omega
  rw [show envV ⟨x, y, z + 1⟩ = x from if_neg u0, show stkV ⟨x, y, z + 1⟩ = y from if_neg u0, show parV ⟨x, y, z + 1⟩ = z from (if_neg u0).trans (Int.add_sub_cancel z 1)] at hcell
  obtain ⟨d1, d2, d3, -, -, -⟩ := hcell
  have e1 := cell_of_heap HA'.out.blk 1
  have e2 := cell_of_heap HA'.out.blk 2
  have e3 := cell_of_heap HA'.out.blk 3
  have e5 := cell_of_heap HA'.out.blk 5
  have z5 := frozen_of_heap HA'.out.blk 5
  have i0 := cell_of_heap HV1.out 0
  have i1 := cell_of_heap HV1.out 1
  have i3 := cell_of_heap HV1.out 3
  simp at e1 e2 e3 e5 i0 i1 i3
  clear u0
  go_wp2_with fail
  refine HPo.out.mono ?_
  rintro e _ ⟨rfl, rfl⟩
  clear d1 d2 d3 e1 e2 e3
  have hy0 : ¬ y < 0 := by have := HB.out; omega
  have HZ : Hid (stepZ is T w k = none) := by
    show _ = _
    unfold stepZ
    rw [HI.out, HX.out, if_neg (by simp [needsZ])]
  go_wp2_with fail
  (try simp only [Exit.inBlock, Exit.then])
  refine bodyPost_end (results_none rfl _ _ _) rfl ?_
  refine ⟨rfl, ?_⟩
  rw [HZ.out]
  exact HS0.out.flagged

set_option maxRecDepth 100000 in
set_option maxHeartbeats 4000000 in
theorem step_25 {W0 : World} {Mb bc oc cc ge gs gp ce cs cp : Nat} {is : List In} {T : List Sq} {w : List Nat} {vw : Value} {W : World} (h : Ck W0 Mb (.slice (some ⟨bc, oc, none⟩) is.length cc) ge gs gp ce cs cp is.length T w vw false W) (hbc : bc < W0.heap.size) (hin : InsAt W0 bc oc is) (hall : ∀ i ∈ is, i.ok = true) (k : Nat) (hk : k < is.length) (hp : 1 ≤ (tg T k).p) (ho : (is.getD k default).op = 25) :
    Calls Tryd.prog 23 #[.pointer (some ⟨Mb, 0, none⟩), .int .i64 (k : Int)] W fun e W' => e = .returned (.tuple #[]) ∧ StC W0 Mb (.slice (some ⟨bc, oc, none⟩) is.length cc) ge gs gp ce cs cp is.length (stepZ is T w k) W' := by
  obtain ⟨i, hi⟩ : ∃ i, is.getD k default = i := ⟨_, rfl⟩
  have hok := all_ok hall hk
  rw [hi] at hok ho
  obtain ⟨op, a, b, c⟩ := i
  dsimp only at ho
  subst ho
  have HA := h.below ((Below.refl W.heap.size W).alloc (Nat.le_refl _) (.cells #[.int .i64 25, .int .i64 a, .int .i64 b, .int .i64 c] 40))
  have hV1 := (MapKept.heap_alloc W (.cells #[.int .i64 25, .int .i64 a, .int .i64 b, .int .i64 c] 40)).1
  have hcell := h.cells (k := k) hk
  have hinW := hin.below h.bel hbc
  have c0 := hinW k hk 0 (by omega)
  have c1 := hinW k hk 1 (by omega)
  have c2 := hinW k hk 2 (by omega)
  have c3 := hinW k hk 3 (by omega)
  rw [hi] at c0 c1 c2 c3
  simp only [In.cell, Nat.add_zero] at c0 c1 c2 c3
  have hpz : ¬ (tg T k).p = 0 := by omega
  have hsane := h.sane _ (tg_mem (show k < T.length by rw [h.len]; exact hk))
  have u1 : envV (tg T k) = (tg T k).n := if_neg hpz
  have u2 : stkV (tg T k) = (tg T k).v := if_neg hpz
  have u3 : parV (tg T k) = (tg T k).p - 1 := if_neg hpz
  rw [u1, u2, u3] at hcell
  obtain ⟨⟨x, y, p⟩, hx⟩ : ∃ s, tg T k = s := ⟨_, rfl⟩
  rw [hx] at hcell hp hsane
  unfold SaneS at hsane
  obtain ⟨z, hz⟩ : ∃ z, p - 1 = z := ⟨_, rfl⟩
  dsimp only at hcell hp hsane
  rw [hz] at hcell
  obtain ⟨d1, d2, d3, -, -, -⟩ := hcell
  have HB : Hid (0 ≤ x ∧ x ≤ 100 ∧ 0 ≤ y ∧ y ≤ 100 ∧ 0 ≤ z ∧ z ≤ 2 ∧ p = z + 1 ∧ k < is.length ∧ is.length ≤ 1500) := by
    have := h.nl
    rcases hsane with hs | hs
    · omega
    · exact ⟨by omega, by omega, by omega, by omega, by omega, by omega, by omega, hk, by omega⟩
  have hp1 : p = z + 1 := HB.out.2.2.2.2.2.2.1
  have HI := hid hi
  have HX : Hid (tg T k = ⟨x, y, z + 1⟩) := by show _ = _; rw [hx, hp1]
  have HOk := hid hok
  have HF := hid (And.intro hbc (And.intro hin hall))
  have e0 := cell_of_heap h.blk 0
  have e1 := cell_of_heap h.blk 1
  have e2 := cell_of_heap h.blk 2
  have e3 := cell_of_heap h.blk 3
  simp at e0 e1 e2 e3
  obtain ⟨V, hV⟩ : ∃ V, W.alloc (.cells #[.int .i64 25, .int .i64 a, .int .i64 b, .int .i64 c] 40) = V := ⟨_, rfl⟩
  rw [hV] at HA hV1
  have HA' := hid HA
  have HV := hid hV
  have HV1 := hid hV1
  have HS0 := hid (StC.of HA)
  have q0 : (0 : Int) ≤ (k : Int) := by omega
  have q1 : (k : Int) < (is.length : Int) := by omega
  have w1 : wrap64 ((k : Int) + 1) = (k : Int) + 1 := by rw [wrap64]; have := HB.out; omega
  have w2 : wrap64 (x + 1) = x + 1 := by rw [wrap64]; have := HB.out; omega
  have w3 : wrap64 (x + 2) = x + 2 := by rw [wrap64]; have := HB.out; omega
  have w4 : wrap64 (y + 1) = y + 1 := by rw [wrap64]; have := HB.out; omega
  have w5 : wrap64 (y - 1) = y - 1 := by rw [wrap64]; have := HB.out; omega
  have w6 : wrap64 (x - 1) = x - 1 := by rw [wrap64]; have := HB.out; omega
  have HPo := hid (pops_25 V)
  clear h hin hall hbc hinW hk hp hi hok hpz hsane u1 u2 u3 hx hz hp1 hV HA hV1
  go_enter Tryd.func23, Tryd.ntmps23
  go_upto_region 1 with fail
  rw [HV.out]
  clear HV c0 c1 c2 c3 e0 e1 e2 e3 d1 d2 d3
  have hcell := HA'.out.cells (k := k) HB.out.2.2.2.2.2.2.2.1
  rw [HX.out] at hcell
  have u0 : ¬ ((⟨x, y, z + 1⟩ : Sq).p = 0) := by dsimp only; have := HB.out; omega
  rw [show envV ⟨x, y, z + 1⟩ = x from if_neg u0, show stkV ⟨x, y, z + 1⟩ = y from if_neg u0, show parV ⟨x, y, z + 1⟩ = z from (if_neg u0).trans (Int.add_sub_cancel z 1)] at hcell
  obtain ⟨d1, d2, d3, -, -, -⟩ := hcell
  have e1 := cell_of_heap HA'.out.blk 1
  have e2 := cell_of_heap HA'.out.blk 2
  have e3 := cell_of_heap HA'.out.blk 3
  have e5 := cell_of_heap HA'.out.blk 5
  have z5 := frozen_of_heap HA'.out.blk 5
  have i0 := cell_of_heap HV1.out 0
  have i1 := cell_of_heap HV1.out 1
  have i3 := cell_of_heap HV1.out 3
  simp at e1 e2 e3 e5 i0 i1 i3
  clear u0
  go_wp2_with fail
  refine HPo.out.mono ?_
  rintro e _ ⟨rfl, rfl⟩
  clear d1 d2 d3 e1 e2 e3
  have hy0 : ¬ y < 0 := by have := HB.out; omega
  have HZ : Hid (stepZ is T w k = none) := by
    show _ = _
    unfold stepZ
    rw [HI.out, HX.out, if_neg (by simp [needsZ])]
  go_wp2_with fail
  (try simp only [Exit.inBlock, Exit.then])
  refine bodyPost_end (results_none rfl _ _ _) rfl ?_
  refine ⟨rfl, ?_⟩
  rw [HZ.out]
  exact HS0.out.flagged
end Go.Proofs.YtfmkgppkgmjpfaaDoor
