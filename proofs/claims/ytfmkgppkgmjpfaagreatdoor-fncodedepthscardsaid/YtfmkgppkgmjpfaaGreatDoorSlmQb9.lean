/- At every bytes the promise on depths holds: drawn code that is valid has one depth at each place, asks for names and values that are there, and ends with just one value; the card. -/
import Derived.Test.YtfmkgppkgmjpfaaGreatDoorSlmQb8
import Derived.Test.YtfmkgppkgmjpfaaGreatDoorSlmQb6
import Derived.Test.YtfmkgppkgmjpfaaGreatDoorSlmQb1
import Derived.Deep.LoopGhost
import Derived.Test.YtfmkgppkgmjpfaaGreatDoorRows
import Derived.WalkKit
import Derived.ProofKit
import Derived.OwnWalk
import Derived.Deep.RegionHeld
import Derived.Test.YtfmkgppkgmjpfaaGreatDoorSlmQb7
import Derived.LaidLaws
import Derived.LaidHandle
import Derived.LaidMore
import Derived.Stop.Joined
import Derived.OpenShut
import Derived.Test.YtfmkgppkgmjpfaaGreatDoorCards
import Derived.Test.YtfmkgppkgmjpfaaGreatDoorTie
import Derived.Deep.DeepHandedRow
import Derived.JoinedCond
import Derived.ChangeVars
namespace Go.Proofs.YtfmkgppkgmjpfaaGreatDoor
section
open Go.RowKit
set_option maxRecDepth 100000 in
theorem pops_18 (W : World) : Calls Tryz.prog 42 #[.int .i64 18] W fun e W' => e = .returned (.int .i64 2) ∧ W = W' := by
 go_enter Tryz.func42, Tryz.ntmps42
 go_wp2_with fail
 go_ret
 exact ⟨rfl, rfl⟩
set_option maxRecDepth 100000 in
theorem pops_19 (W : World) : Calls Tryz.prog 42 #[.int .i64 19] W fun e W' => e = .returned (.int .i64 1) ∧ W = W' := by
 go_enter Tryz.func42, Tryz.ntmps42
 go_wp2_with fail
 go_ret
 exact ⟨rfl, rfl⟩
set_option maxRecDepth 100000 in
theorem pops_20 (W : World) : Calls Tryz.prog 42 #[.int .i64 20] W fun e W' => e = .returned (.int .i64 1) ∧ W = W' := by
 go_enter Tryz.func42, Tryz.ntmps42
 go_wp2_with fail
 go_ret
 exact ⟨rfl, rfl⟩
set_option maxRecDepth 100000 in
theorem pops_21 (W : World) : Calls Tryz.prog 42 #[.int .i64 21] W fun e W' => e = .returned (.int .i64 0) ∧ W = W' := by
 go_enter Tryz.func42, Tryz.ntmps42
 go_wp2_with fail
 go_ret
 exact ⟨rfl, rfl⟩
set_option maxRecDepth 100000 in
theorem pops_22 (W : World) : Calls Tryz.prog 42 #[.int .i64 22] W fun e W' => e = .returned (.int .i64 1) ∧ W = W' := by
 go_enter Tryz.func42, Tryz.ntmps42
 go_wp2_with fail
 go_ret
 exact ⟨rfl, rfl⟩
set_option maxRecDepth 100000 in
theorem pops_23 (W : World) : Calls Tryz.prog 42 #[.int .i64 23] W fun e W' => e = .returned (.int .i64 1) ∧ W = W' := by
 go_enter Tryz.func42, Tryz.ntmps42
 go_wp2_with fail
 go_ret
 exact ⟨rfl, rfl⟩
set_option maxRecDepth 100000 in
theorem pops_24 (W : World) : Calls Tryz.prog 42 #[.int .i64 24] W fun e W' => e = .returned (.int .i64 0) ∧ W = W' := by
 go_enter Tryz.func42, Tryz.ntmps42
 go_wp2_with fail
 go_ret
 exact ⟨rfl, rfl⟩
set_option maxRecDepth 100000 in
theorem pops_25 (W : World) : Calls Tryz.prog 42 #[.int .i64 25] W fun e W' => e = .returned (.int .i64 0) ∧ W = W' := by
 go_enter Tryz.func42, Tryz.ntmps42
 go_wp2_with fail
 go_ret
 exact ⟨rfl, rfl⟩
set_option maxRecDepth 100000 in
set_option maxHeartbeats 4000000 in
theorem step_18 {W0 : World} {Mb bc oc cc ge gs gp ce cs cp : Nat} {is : List In} {T : List Sq} {w : List Nat} {vw : Value} {W : World} (h : Ck W0 Mb (.slice (some ⟨bc, oc, none⟩) is.length cc) ge gs gp ce cs cp is.length T w vw false W) (hbc : bc < W0.heap.size) (hin : InsAt W0 bc oc is) (hall : ∀ i ∈ is, i.ok = true) (k : Nat) (hk : k < is.length) (hp : 1 ≤ (tg T k).p) (ho : (is.getD k default).op = 18) :
   Calls Tryz.prog 23 #[.pointer (some ⟨Mb, 0, none⟩), .int .i64 (k : Int)] W fun e W' => e = .returned (.tuple #[]) ∧ StC W0 Mb (.slice (some ⟨bc, oc, none⟩) is.length cc) ge gs gp ce cs cp is.length (stepZ is T w k) W' := by
 obtain ⟨i, hi⟩ : ∃ i, is.getD k default = i := ⟨_, rfl⟩
 have hok := z41 hall hk
 rw [hi] at hok ho
 obtain ⟨op, a, b, c⟩ := i
 dsimp only at ho
 subst ho
 have HA := h.below ((Below.refl W.heap.size W).alloc (Nat.le_refl _) (.cells #[.int .i64 18, .int .i64 a, .int .i64 b, .int .i64 c] 31))
 have hV1 := (MapKept.heap_alloc W (.cells #[.int .i64 18, .int .i64 a, .int .i64 b, .int .i64 c] 31)).1
 have hcell := h.cells (k := k) hk
 have hinW := hin.below h.bel hbc
 have c0 := hinW k hk 0 (by omega)
 have c1 := hinW k hk 1 (by omega)
 have c2 := hinW k hk 2 (by omega)
 have c3 := hinW k hk 3 (by omega)
 rw [hi] at c0 c1 c2 c3
 simp only [In.cell, Nat.add_zero] at c0 c1 c2 c3
 have hpz : ¬ (tg T k).p = 0 := by omega
 have hsane := h.sane _ (z50 (show k < T.length by rw [h.len]; exact hk))
 have u1 : envV (tg T k) = (tg T k).n := if_neg hpz
 have u2 : stkV (tg T k) = (tg T k).v := if_neg hpz
 have u3 : parV (tg T k) = (tg T k).p - 1 := if_neg hpz
 rw [u1, u2, u3] at hcell
 obtain ⟨⟨x, y, p⟩, hx⟩ : ∃ s, tg T k = s := ⟨_, rfl⟩
 rw [hx] at hcell hp hsane
 unfold SaneS at hsane
 obtain ⟨z, hz⟩ : ∃ z, p - 1 = z := ⟨_, rfl⟩
 dsimp only at hcell hp hsane
 rw [hz] at hcell
 obtain ⟨d1, d2, d3, -, -, -⟩ := hcell
 have HB : Hid (0 ≤ x ∧ x ≤ 100 ∧ 0 ≤ y ∧ y ≤ 100 ∧ 0 ≤ z ∧ z ≤ 2 ∧ p = z + 1 ∧ k < is.length ∧ is.length ≤ 1500) := by
   have := h.nl
   rcases hsane with hs | hs
   · omega
   · exact ⟨by omega, by omega, by omega, by omega, by omega, by omega, by omega, hk, by omega⟩
 have hp1 : p = z + 1 := HB.out.2.2.2.2.2.2.1
 have HI := hid hi
 have HX : Hid (tg T k = ⟨x, y, z + 1⟩) := by show _ = _; rw [hx, hp1]
 have HOk := hid hok
 have HF := hid (And.intro hbc (And.intro hin hall))
 have e0 := z11 h.blk 0
 have e1 := z11 h.blk 1
 have e2 := z11 h.blk 2
 have e3 := z11 h.blk 3
 simp at e0 e1 e2 e3
 obtain ⟨V, hV⟩ : ∃ V, W.alloc (.cells #[.int .i64 18, .int .i64 a, .int .i64 b, .int .i64 c] 31) = V := ⟨_, rfl⟩
 rw [hV] at HA hV1
 have HA' := hid HA
 have HV := hid hV
 have HV1 := hid hV1
 have HS0 := hid (StC.of HA)
 have q0 : (0 : Int) ≤ (k : Int) := by omega
 have q1 : (k : Int) < (is.length : Int) := by omega
 have w1 : wrap64 ((k : Int) + 1) = (k : Int) + 1 := by rw [wrap64]; have := HB.out; omega
 have w2 : wrap64 (x + 1) = x + 1 := by rw [wrap64]; have := HB.out; omega
 have w3 : wrap64 (x + 2) = x + 2 := by rw [wrap64]; have := HB.out; omega
 have w4 : wrap64 (y + 1) = y + 1 := by rw [wrap64]; have := HB.out; omega
 have w5 : wrap64 (y - 1) = y - 1 := by rw [wrap64]; have := HB.out; omega
 have w6 : wrap64 (x - 1) = x - 1 := by rw [wrap64]; have := HB.out; omega
 have HPo := hid (pops_18 V)
 clear h hin hall hbc hinW hk hp hi hok hpz hsane u1 u2 u3 hx hz hp1 hV HA hV1
 go_enter Tryz.func23, Tryz.ntmps23
 go_upto_region 1 with fail
 rw [HV.out]
 clear HV c0 c1 c2 c3 e0 e1 e2 e3 d1 d2 d3
 have hcell := HA'.out.cells (k := k) HB.out.2.2.2.2.2.2.2.1
 rw [HX.out] at hcell
 have u0 : ¬ ((⟨x, y, z + 1⟩ : Sq).p = 0) := by dsimp only; have := HB.out; omega
 rw [show envV ⟨x, y, z + 1⟩ = x from if_neg u0, show stkV ⟨x, y, z + 1⟩ = y from if_neg u0, show parV ⟨x, y, z + 1⟩ = z from (if_neg u0).trans (Int.add_sub_cancel z 1)] at hcell
 obtain ⟨d1, d2, d3, -, -, -⟩ := hcell
 have e1 := z11 HA'.out.blk 1
 have e2 := z11 HA'.out.blk 2
 have e3 := z11 HA'.out.blk 3
 have e5 := z11 HA'.out.blk 5
 have z5 := z13 HA'.out.blk 5
 have i0 := z11 HV1.out 0
 have i1 := z11 HV1.out 1
 have i3 := z11 HV1.out 3
 simp at e1 e2 e3 e5 i0 i1 i3
 clear u0
 go_wp2_with fail
 refine HPo.out.mono ?_
 rintro e _ ⟨rfl, rfl⟩
 clear d1 d2 d3 e1 e2 e3
 by_cases hpop : y < 2
 · have HZ : Hid (stepZ is T w k = none) := by
     show _ = _
     unfold stepZ
     rw [HI.out, HX.out, if_neg (fun e => by simp [needsZ] at e; omega)]
   go_wp2_with fail
   (try simp only [Exit.inBlock, Exit.then])
   refine bodyPost_ret (results_none rfl _ _ _) rfl ?_
   refine ⟨rfl, ?_⟩
   rw [HZ.out]
   exact HS0.out.flagged
 have HZ : Hid (stepZ is T w k = rz is.length (some (T, w)) [((k : Int) + 1, (⟨x, y - 1, z + 1⟩ : Sq))]) := by
   show _ = _
   unfold stepZ
   rw [HI.out, HX.out, if_pos (by simp [needsZ]; omega)]
   simp [exitsZ, Sq.more, Int.sub_eq_add_neg]
 go_wp2_with fail
 refine (z38 HS0.out ((k : Int) + 1) (x) (y - 1) (z) HB.out.2.2.2.2.1 HB.out.2.2.2.2.2.1).mono ?_
 rintro e V2 ⟨rfl, hs1, hc1⟩
 have HS1 := hid hs1
 clear hs1 hc1 HS0
 go_wp2_with fail
 (try simp only [Exit.inBlock, Exit.then])
 refine bodyPost_end (results_none rfl _ _ _) rfl ?_
 refine ⟨rfl, ?_⟩
 rw [HZ.out]
 exact HS1.out
set_option maxRecDepth 100000 in
set_option maxHeartbeats 4000000 in
theorem step_19 {W0 : World} {Mb bc oc cc ge gs gp ce cs cp : Nat} {is : List In} {T : List Sq} {w : List Nat} {vw : Value} {W : World} (h : Ck W0 Mb (.slice (some ⟨bc, oc, none⟩) is.length cc) ge gs gp ce cs cp is.length T w vw false W) (hbc : bc < W0.heap.size) (hin : InsAt W0 bc oc is) (hall : ∀ i ∈ is, i.ok = true) (k : Nat) (hk : k < is.length) (hp : 1 ≤ (tg T k).p) (ho : (is.getD k default).op = 19) :
   Calls Tryz.prog 23 #[.pointer (some ⟨Mb, 0, none⟩), .int .i64 (k : Int)] W fun e W' => e = .returned (.tuple #[]) ∧ StC W0 Mb (.slice (some ⟨bc, oc, none⟩) is.length cc) ge gs gp ce cs cp is.length (stepZ is T w k) W' := by
 obtain ⟨i, hi⟩ : ∃ i, is.getD k default = i := ⟨_, rfl⟩
 have hok := z41 hall hk
 rw [hi] at hok ho
 obtain ⟨op, a, b, c⟩ := i
 dsimp only at ho
 subst ho
 have HA := h.below ((Below.refl W.heap.size W).alloc (Nat.le_refl _) (.cells #[.int .i64 19, .int .i64 a, .int .i64 b, .int .i64 c] 31))
 have hV1 := (MapKept.heap_alloc W (.cells #[.int .i64 19, .int .i64 a, .int .i64 b, .int .i64 c] 31)).1
 have hcell := h.cells (k := k) hk
 have hinW := hin.below h.bel hbc
 have c0 := hinW k hk 0 (by omega)
 have c1 := hinW k hk 1 (by omega)
 have c2 := hinW k hk 2 (by omega)
 have c3 := hinW k hk 3 (by omega)
 rw [hi] at c0 c1 c2 c3
 simp only [In.cell, Nat.add_zero] at c0 c1 c2 c3
 have hpz : ¬ (tg T k).p = 0 := by omega
 have hsane := h.sane _ (z50 (show k < T.length by rw [h.len]; exact hk))
 have u1 : envV (tg T k) = (tg T k).n := if_neg hpz
 have u2 : stkV (tg T k) = (tg T k).v := if_neg hpz
 have u3 : parV (tg T k) = (tg T k).p - 1 := if_neg hpz
 rw [u1, u2, u3] at hcell
 obtain ⟨⟨x, y, p⟩, hx⟩ : ∃ s, tg T k = s := ⟨_, rfl⟩
 rw [hx] at hcell hp hsane
 unfold SaneS at hsane
 obtain ⟨z, hz⟩ : ∃ z, p - 1 = z := ⟨_, rfl⟩
 dsimp only at hcell hp hsane
 rw [hz] at hcell
 obtain ⟨d1, d2, d3, -, -, -⟩ := hcell
 have HB : Hid (0 ≤ x ∧ x ≤ 100 ∧ 0 ≤ y ∧ y ≤ 100 ∧ 0 ≤ z ∧ z ≤ 2 ∧ p = z + 1 ∧ k < is.length ∧ is.length ≤ 1500) := by
   have := h.nl
   rcases hsane with hs | hs
   · omega
   · exact ⟨by omega, by omega, by omega, by omega, by omega, by omega, by omega, hk, by omega⟩
 have hp1 : p = z + 1 := HB.out.2.2.2.2.2.2.1
 have HI := hid hi
 have HX : Hid (tg T k = ⟨x, y, z + 1⟩) := by show _ = _; rw [hx, hp1]
 have HOk := hid hok
 have HF := hid (And.intro hbc (And.intro hin hall))
 have e0 := z11 h.blk 0
 have e1 := z11 h.blk 1
 have e2 := z11 h.blk 2
 have e3 := z11 h.blk 3
 simp at e0 e1 e2 e3
 obtain ⟨V, hV⟩ : ∃ V, W.alloc (.cells #[.int .i64 19, .int .i64 a, .int .i64 b, .int .i64 c] 31) = V := ⟨_, rfl⟩
 rw [hV] at HA hV1
 have HA' := hid HA
 have HV := hid hV
 have HV1 := hid hV1
 have HS0 := hid (StC.of HA)
 have q0 : (0 : Int) ≤ (k : Int) := by omega
 have q1 : (k : Int) < (is.length : Int) := by omega
 have w1 : wrap64 ((k : Int) + 1) = (k : Int) + 1 := by rw [wrap64]; have := HB.out; omega
 have w2 : wrap64 (x + 1) = x + 1 := by rw [wrap64]; have := HB.out; omega
 have w3 : wrap64 (x + 2) = x + 2 := by rw [wrap64]; have := HB.out; omega
 have w4 : wrap64 (y + 1) = y + 1 := by rw [wrap64]; have := HB.out; omega
 have w5 : wrap64 (y - 1) = y - 1 := by rw [wrap64]; have := HB.out; omega
 have w6 : wrap64 (x - 1) = x - 1 := by rw [wrap64]; have := HB.out; omega
 have HPo := hid (pops_19 V)
 clear h hin hall hbc hinW hk hp hi hok hpz hsane u1 u2 u3 hx hz hp1 hV HA hV1
 go_enter Tryz.func23, Tryz.ntmps23
 go_upto_region 1 with fail
 rw [HV.out]
 clear HV c0 c1 c2 c3 e0 e1 e2 e3 d1 d2 d3
 have hcell := HA'.out.cells (k := k) HB.out.2.2.2.2.2.2.2.1
 rw [HX.out] at hcell
 have u0 : ¬ ((⟨x, y, z + 1⟩ : Sq).p = 0) := by dsimp only; have := HB.out; omega
 rw [show envV ⟨x, y, z + 1⟩ = x from if_neg u0, show stkV ⟨x, y, z + 1⟩ = y from if_neg u0, show parV ⟨x, y, z + 1⟩ = z from (if_neg u0).trans (Int.add_sub_cancel z 1)] at hcell
 obtain ⟨d1, d2, d3, -, -, -⟩ := hcell
 have e1 := z11 HA'.out.blk 1
 have e2 := z11 HA'.out.blk 2
 have e3 := z11 HA'.out.blk 3
 have e5 := z11 HA'.out.blk 5
 have z5 := z13 HA'.out.blk 5
 have i0 := z11 HV1.out 0
 have i1 := z11 HV1.out 1
 have i3 := z11 HV1.out 3
 simp at e1 e2 e3 e5 i0 i1 i3
 clear u0
 go_wp2_with fail
 refine HPo.out.mono ?_
 rintro e _ ⟨rfl, rfl⟩
 clear d1 d2 d3 e1 e2 e3
 by_cases hpop : y < 1
 · have HZ : Hid (stepZ is T w k = none) := by
     show _ = _
     unfold stepZ
     rw [HI.out, HX.out, if_neg (fun e => by simp [needsZ] at e; omega)]
   go_wp2_with fail
   (try simp only [Exit.inBlock, Exit.then])
   refine bodyPost_ret (results_none rfl _ _ _) rfl ?_
   refine ⟨rfl, ?_⟩
   rw [HZ.out]
   exact HS0.out.flagged
 have HZ : Hid (stepZ is T w k = rz is.length (some (T, w)) [(a, (⟨x, y - 1, z + 1⟩ : Sq)), ((k : Int) + 1, (⟨x + 2, y - 1, z + 1⟩ : Sq))]) := by
   show _ = _
   unfold stepZ
   rw [HI.out, HX.out, if_pos (by simp [needsZ]; omega)]
   simp [exitsZ, Sq.more, Int.sub_eq_add_neg]
 go_wp2_with fail
 refine (z38 HS0.out (a) (x) (y - 1) (z) HB.out.2.2.2.2.1 HB.out.2.2.2.2.2.1).mono ?_
 rintro e V2 ⟨rfl, hs1, hc1⟩
 have HS1 := hid hs1
 have HV2 := hid ((hc1.block _ _ _ HV1.out (by decide) (by decide)).trans HV1.out)
 clear i0 i1 i3
 clear e5 z5
 have i0 := z11 HV2.out 0
 have i1 := z11 HV2.out 1
 have i3 := z11 HV2.out 3
 simp at i0 i1 i3
 clear hs1 hc1 HS0
 go_wp2_with fail
 refine (z38 HS1.out ((k : Int) + 1) (x + 2) (y - 1) (z) HB.out.2.2.2.2.1 HB.out.2.2.2.2.2.1).mono ?_
 rintro e V3 ⟨rfl, hs2, hc2⟩
 have HS2 := hid hs2
 clear hs2 hc2 HS1
 go_wp2_with fail
 (try simp only [Exit.inBlock, Exit.then])
 refine bodyPost_end (results_none rfl _ _ _) rfl ?_
 refine ⟨rfl, ?_⟩
 rw [HZ.out]
 exact HS2.out
set_option maxRecDepth 100000 in
set_option maxHeartbeats 4000000 in
theorem step_20 {W0 : World} {Mb bc oc cc ge gs gp ce cs cp : Nat} {is : List In} {T : List Sq} {w : List Nat} {vw : Value} {W : World} (h : Ck W0 Mb (.slice (some ⟨bc, oc, none⟩) is.length cc) ge gs gp ce cs cp is.length T w vw false W) (hbc : bc < W0.heap.size) (hin : InsAt W0 bc oc is) (hall : ∀ i ∈ is, i.ok = true) (k : Nat) (hk : k < is.length) (hp : 1 ≤ (tg T k).p) (ho : (is.getD k default).op = 20) :
   Calls Tryz.prog 23 #[.pointer (some ⟨Mb, 0, none⟩), .int .i64 (k : Int)] W fun e W' => e = .returned (.tuple #[]) ∧ StC W0 Mb (.slice (some ⟨bc, oc, none⟩) is.length cc) ge gs gp ce cs cp is.length (stepZ is T w k) W' := by
 obtain ⟨i, hi⟩ : ∃ i, is.getD k default = i := ⟨_, rfl⟩
 have hok := z41 hall hk
 rw [hi] at hok ho
 obtain ⟨op, a, b, c⟩ := i
 dsimp only at ho
 subst ho
 have HA := h.below ((Below.refl W.heap.size W).alloc (Nat.le_refl _) (.cells #[.int .i64 20, .int .i64 a, .int .i64 b, .int .i64 c] 31))
 have hV1 := (MapKept.heap_alloc W (.cells #[.int .i64 20, .int .i64 a, .int .i64 b, .int .i64 c] 31)).1
 have hcell := h.cells (k := k) hk
 have hinW := hin.below h.bel hbc
 have c0 := hinW k hk 0 (by omega)
 have c1 := hinW k hk 1 (by omega)
 have c2 := hinW k hk 2 (by omega)
 have c3 := hinW k hk 3 (by omega)
 rw [hi] at c0 c1 c2 c3
 simp only [In.cell, Nat.add_zero] at c0 c1 c2 c3
 have hpz : ¬ (tg T k).p = 0 := by omega
 have hsane := h.sane _ (z50 (show k < T.length by rw [h.len]; exact hk))
 have u1 : envV (tg T k) = (tg T k).n := if_neg hpz
 have u2 : stkV (tg T k) = (tg T k).v := if_neg hpz
 have u3 : parV (tg T k) = (tg T k).p - 1 := if_neg hpz
 rw [u1, u2, u3] at hcell
 obtain ⟨⟨x, y, p⟩, hx⟩ : ∃ s, tg T k = s := ⟨_, rfl⟩
 rw [hx] at hcell hp hsane
 unfold SaneS at hsane
 obtain ⟨z, hz⟩ : ∃ z, p - 1 = z := ⟨_, rfl⟩
 dsimp only at hcell hp hsane
 rw [hz] at hcell
 obtain ⟨d1, d2, d3, -, -, -⟩ := hcell
 have HB : Hid (0 ≤ x ∧ x ≤ 100 ∧ 0 ≤ y ∧ y ≤ 100 ∧ 0 ≤ z ∧ z ≤ 2 ∧ p = z + 1 ∧ k < is.length ∧ is.length ≤ 1500) := by
   have := h.nl
   rcases hsane with hs | hs
   · omega
   · exact ⟨by omega, by omega, by omega, by omega, by omega, by omega, by omega, hk, by omega⟩
 have hp1 : p = z + 1 := HB.out.2.2.2.2.2.2.1
 have HI := hid hi
 have HX : Hid (tg T k = ⟨x, y, z + 1⟩) := by show _ = _; rw [hx, hp1]
 have HOk := hid hok
 have HF := hid (And.intro hbc (And.intro hin hall))
 have e0 := z11 h.blk 0
 have e1 := z11 h.blk 1
 have e2 := z11 h.blk 2
 have e3 := z11 h.blk 3
 simp at e0 e1 e2 e3
 obtain ⟨V, hV⟩ : ∃ V, W.alloc (.cells #[.int .i64 20, .int .i64 a, .int .i64 b, .int .i64 c] 31) = V := ⟨_, rfl⟩
 rw [hV] at HA hV1
 have HA' := hid HA
 have HV := hid hV
 have HV1 := hid hV1
 have HS0 := hid (StC.of HA)
 have q0 : (0 : Int) ≤ (k : Int) := by omega
 have q1 : (k : Int) < (is.length : Int) := by omega
 have w1 : wrap64 ((k : Int) + 1) = (k : Int) + 1 := by rw [wrap64]; have := HB.out; omega
 have w2 : wrap64 (x + 1) = x + 1 := by rw [wrap64]; have := HB.out; omega
 have w3 : wrap64 (x + 2) = x + 2 := by rw [wrap64]; have := HB.out; omega
 have w4 : wrap64 (y + 1) = y + 1 := by rw [wrap64]; have := HB.out; omega
 have w5 : wrap64 (y - 1) = y - 1 := by rw [wrap64]; have := HB.out; omega
 have w6 : wrap64 (x - 1) = x - 1 := by rw [wrap64]; have := HB.out; omega
 have HPo := hid (pops_20 V)
 clear h hin hall hbc hinW hk hp hi hok hpz hsane u1 u2 u3 hx hz hp1 hV HA hV1
 go_enter Tryz.func23, Tryz.ntmps23
 go_upto_region 1 with fail
 rw [HV.out]
 clear HV c0 c1 c2 c3 e0 e1 e2 e3 d1 d2 d3
 have hcell := HA'.out.cells (k := k) HB.out.2.2.2.2.2.2.2.1
 rw [HX.out] at hcell
 have u0 : ¬ ((⟨x, y, z + 1⟩ : Sq).p = 0) := by dsimp only; have := HB.out; omega
 rw [show envV ⟨x, y, z + 1⟩ = x from if_neg u0, show stkV ⟨x, y, z + 1⟩ = y from if_neg u0, show parV ⟨x, y, z + 1⟩ = z from (if_neg u0).trans (Int.add_sub_cancel z 1)] at hcell
 obtain ⟨d1, d2, d3, -, -, -⟩ := hcell
 have e1 := z11 HA'.out.blk 1
 have e2 := z11 HA'.out.blk 2
 have e3 := z11 HA'.out.blk 3
 have e5 := z11 HA'.out.blk 5
 have z5 := z13 HA'.out.blk 5
 have i0 := z11 HV1.out 0
 have i1 := z11 HV1.out 1
 have i3 := z11 HV1.out 3
 simp at e1 e2 e3 e5 i0 i1 i3
 clear u0
 go_wp2_with fail
 refine HPo.out.mono ?_
 rintro e _ ⟨rfl, rfl⟩
 clear d1 d2 d3 e1 e2 e3
 by_cases hpop : y < 1
 · have HZ : Hid (stepZ is T w k = none) := by
     show _ = _
     unfold stepZ
     rw [HI.out, HX.out, if_neg (fun e => by simp [needsZ] at e; omega)]
   go_wp2_with fail
   (try simp only [Exit.inBlock, Exit.then])
   refine bodyPost_ret (results_none rfl _ _ _) rfl ?_
   refine ⟨rfl, ?_⟩
   rw [HZ.out]
   exact HS0.out.flagged
 have HZ : Hid (stepZ is T w k = rz is.length (some (T, w)) [((k : Int) + 1, (⟨x, y, z + 1⟩ : Sq))]) := by
   show _ = _
   unfold stepZ
   rw [HI.out, HX.out, if_pos (by simp [needsZ]; omega)]
   simp [exitsZ]
 go_wp2_with fail
 refine (z38 HS0.out ((k : Int) + 1) (x) (y) (z) HB.out.2.2.2.2.1 HB.out.2.2.2.2.2.1).mono ?_
 rintro e V2 ⟨rfl, hs1, hc1⟩
 have HS1 := hid hs1
 clear hs1 hc1 HS0
 go_wp2_with fail
 (try simp only [Exit.inBlock, Exit.then])
 refine bodyPost_end (results_none rfl _ _ _) rfl ?_
 refine ⟨rfl, ?_⟩
 rw [HZ.out]
 exact HS1.out
set_option maxRecDepth 100000 in
set_option maxHeartbeats 4000000 in
theorem step_21 {W0 : World} {Mb bc oc cc ge gs gp ce cs cp : Nat} {is : List In} {T : List Sq} {w : List Nat} {vw : Value} {W : World} (h : Ck W0 Mb (.slice (some ⟨bc, oc, none⟩) is.length cc) ge gs gp ce cs cp is.length T w vw false W) (hbc : bc < W0.heap.size) (hin : InsAt W0 bc oc is) (hall : ∀ i ∈ is, i.ok = true) (k : Nat) (hk : k < is.length) (hp : 1 ≤ (tg T k).p) (ho : (is.getD k default).op = 21) :
   Calls Tryz.prog 23 #[.pointer (some ⟨Mb, 0, none⟩), .int .i64 (k : Int)] W fun e W' => e = .returned (.tuple #[]) ∧ StC W0 Mb (.slice (some ⟨bc, oc, none⟩) is.length cc) ge gs gp ce cs cp is.length (stepZ is T w k) W' := by
 obtain ⟨i, hi⟩ : ∃ i, is.getD k default = i := ⟨_, rfl⟩
 have hok := z41 hall hk
 rw [hi] at hok ho
 obtain ⟨op, a, b, c⟩ := i
 dsimp only at ho
 subst ho
 have HA := h.below ((Below.refl W.heap.size W).alloc (Nat.le_refl _) (.cells #[.int .i64 21, .int .i64 a, .int .i64 b, .int .i64 c] 31))
 have hV1 := (MapKept.heap_alloc W (.cells #[.int .i64 21, .int .i64 a, .int .i64 b, .int .i64 c] 31)).1
 have hcell := h.cells (k := k) hk
 have hinW := hin.below h.bel hbc
 have c0 := hinW k hk 0 (by omega)
 have c1 := hinW k hk 1 (by omega)
 have c2 := hinW k hk 2 (by omega)
 have c3 := hinW k hk 3 (by omega)
 rw [hi] at c0 c1 c2 c3
 simp only [In.cell, Nat.add_zero] at c0 c1 c2 c3
 have hpz : ¬ (tg T k).p = 0 := by omega
 have hsane := h.sane _ (z50 (show k < T.length by rw [h.len]; exact hk))
 have u1 : envV (tg T k) = (tg T k).n := if_neg hpz
 have u2 : stkV (tg T k) = (tg T k).v := if_neg hpz
 have u3 : parV (tg T k) = (tg T k).p - 1 := if_neg hpz
 rw [u1, u2, u3] at hcell
 obtain ⟨⟨x, y, p⟩, hx⟩ : ∃ s, tg T k = s := ⟨_, rfl⟩
 rw [hx] at hcell hp hsane
 unfold SaneS at hsane
 obtain ⟨z, hz⟩ : ∃ z, p - 1 = z := ⟨_, rfl⟩
 dsimp only at hcell hp hsane
 rw [hz] at hcell
 obtain ⟨d1, d2, d3, -, -, -⟩ := hcell
 have HB : Hid (0 ≤ x ∧ x ≤ 100 ∧ 0 ≤ y ∧ y ≤ 100 ∧ 0 ≤ z ∧ z ≤ 2 ∧ p = z + 1 ∧ k < is.length ∧ is.length ≤ 1500) := by
   have := h.nl
   rcases hsane with hs | hs
   · omega
   · exact ⟨by omega, by omega, by omega, by omega, by omega, by omega, by omega, hk, by omega⟩
 have hp1 : p = z + 1 := HB.out.2.2.2.2.2.2.1
 have HI := hid hi
 have HX : Hid (tg T k = ⟨x, y, z + 1⟩) := by show _ = _; rw [hx, hp1]
 have HOk := hid hok
 have HF := hid (And.intro hbc (And.intro hin hall))
 have e0 := z11 h.blk 0
 have e1 := z11 h.blk 1
 have e2 := z11 h.blk 2
 have e3 := z11 h.blk 3
 simp at e0 e1 e2 e3
 obtain ⟨V, hV⟩ : ∃ V, W.alloc (.cells #[.int .i64 21, .int .i64 a, .int .i64 b, .int .i64 c] 31) = V := ⟨_, rfl⟩
 rw [hV] at HA hV1
 have HA' := hid HA
 have HV := hid hV
 have HV1 := hid hV1
 have HS0 := hid (StC.of HA)
 have q0 : (0 : Int) ≤ (k : Int) := by omega
 have q1 : (k : Int) < (is.length : Int) := by omega
 have w1 : wrap64 ((k : Int) + 1) = (k : Int) + 1 := by rw [wrap64]; have := HB.out; omega
 have w2 : wrap64 (x + 1) = x + 1 := by rw [wrap64]; have := HB.out; omega
 have w3 : wrap64 (x + 2) = x + 2 := by rw [wrap64]; have := HB.out; omega
 have w4 : wrap64 (y + 1) = y + 1 := by rw [wrap64]; have := HB.out; omega
 have w5 : wrap64 (y - 1) = y - 1 := by rw [wrap64]; have := HB.out; omega
 have w6 : wrap64 (x - 1) = x - 1 := by rw [wrap64]; have := HB.out; omega
 have HPo := hid (pops_21 V)
 clear h hin hall hbc hinW hk hp hi hok hpz hsane u1 u2 u3 hx hz hp1 hV HA hV1
 go_enter Tryz.func23, Tryz.ntmps23
 go_upto_region 1 with fail
 rw [HV.out]
 clear HV c0 c1 c2 c3 e0 e1 e2 e3 d1 d2 d3
 have hcell := HA'.out.cells (k := k) HB.out.2.2.2.2.2.2.2.1
 rw [HX.out] at hcell
 have u0 : ¬ ((⟨x, y, z + 1⟩ : Sq).p = 0) := by dsimp only; have := HB.out; omega
 rw [show envV ⟨x, y, z + 1⟩ = x from if_neg u0, show stkV ⟨x, y, z + 1⟩ = y from if_neg u0, show parV ⟨x, y, z + 1⟩ = z from (if_neg u0).trans (Int.add_sub_cancel z 1)] at hcell
 obtain ⟨d1, d2, d3, -, -, -⟩ := hcell
 have e1 := z11 HA'.out.blk 1
 have e2 := z11 HA'.out.blk 2
 have e3 := z11 HA'.out.blk 3
 have e5 := z11 HA'.out.blk 5
 have z5 := z13 HA'.out.blk 5
 have i0 := z11 HV1.out 0
 have i1 := z11 HV1.out 1
 have i3 := z11 HV1.out 3
 simp at e1 e2 e3 e5 i0 i1 i3
 clear u0
 go_wp2_with fail
 refine HPo.out.mono ?_
 rintro e _ ⟨rfl, rfl⟩
 clear d1 d2 d3 e1 e2 e3
 have hy0 : ¬ y < 0 := by have := HB.out; omega
 by_cases hv : tableZ is a = true
 case neg =>
   have HZ : Hid (stepZ is T w k = none) := by
     show _ = _
     unfold stepZ
     rw [HI.out, HX.out, if_neg (fun e => by simp [needsZ] at e; exact hv e)]
   go_wp2_with fail
   refine (table_st HS0.out HF.out.1 HF.out.2.1 HF.out.2.2 a x (by have := ok_nums HOk.out (by dsimp only; decide) (by dsimp only; decide) (by dsimp only; decide); exact this.1) HB.out.1 HB.out.2.1).mono ?_
   rintro e V2 ⟨rfl, hs1, hc1⟩
   have HS1 := hid hs1
   have HV2 := hid ((hc1.block _ _ _ HV1.out (by decide) (by decide)).trans HV1.out)
   clear i0 i1 i3
   clear e5 z5
   have i0 := z11 HV2.out 0
   have i1 := z11 HV2.out 1
   have i3 := z11 HV2.out 3
   simp at i0 i1 i3
   clear hs1 hc1 HS0
   go_wp2_with fail
   refine (z38 HS1.out ((k : Int) + 1) (x) (0) (2) (by decide) (by decide)).mono ?_
   rintro e V3 ⟨rfl, hs2, hc2⟩
   have HS2 := hid hs2
   have HV3 := hid ((hc2.block _ _ _ HV2.out (by decide) (by decide)).trans HV2.out)
   clear i0 i1 i3
   have i0 := z11 HV3.out 0
   have i1 := z11 HV3.out 1
   have i3 := z11 HV3.out 3
   simp at i0 i1 i3
   clear hs2 hc2 HS1
   go_wp2_with fail
   refine (z38 HS2.out (c) (x) (y + 1) (z) HB.out.2.2.2.2.1 HB.out.2.2.2.2.2.1).mono ?_
   rintro e V4 ⟨rfl, hs3, hc3⟩
   have HS3 := hid hs3
   clear hs3 hc3 HS2
   go_wp2_with fail
   (try simp only [Exit.inBlock, Exit.then])
   refine bodyPost_end (results_none rfl _ _ _) rfl ?_
   refine ⟨rfl, ?_⟩
   rw [HZ.out]
   have := HS3.out
   rw [tabZ, if_neg hv] at this
   exact this
 have HZ : Hid (stepZ is T w k = rz is.length (some (T, w)) (exitsZ is k ⟨21, a, b, c⟩ ⟨x, y, z + 1⟩)) := by
   show _ = _
   unfold stepZ
   rw [HI.out, HX.out, if_pos (by simp [needsZ, hv])]
 go_wp2_with fail
 refine (table_st HS0.out HF.out.1 HF.out.2.1 HF.out.2.2 a x (by have := ok_nums HOk.out (by dsimp only; decide) (by dsimp only; decide) (by dsimp only; decide); exact this.1) HB.out.1 HB.out.2.1).mono ?_
 rintro e V2 ⟨rfl, hs1, hc1⟩
 have HS1 := hid hs1
 have HV2 := hid ((hc1.block _ _ _ HV1.out (by decide) (by decide)).trans HV1.out)
 clear i0 i1 i3
 clear e5 z5
 have i0 := z11 HV2.out 0
 have i1 := z11 HV2.out 1
 have i3 := z11 HV2.out 3
 simp at i0 i1 i3
 clear hs1 hc1 HS0
 go_wp2_with fail
 refine (z38 HS1.out ((k : Int) + 1) (x) (0) (2) (by decide) (by decide)).mono ?_
 rintro e V3 ⟨rfl, hs2, hc2⟩
 have HS2 := hid hs2
 have HV3 := hid ((hc2.block _ _ _ HV2.out (by decide) (by decide)).trans HV2.out)
 clear i0 i1 i3
 have i0 := z11 HV3.out 0
 have i1 := z11 HV3.out 1
 have i3 := z11 HV3.out 3
 simp at i0 i1 i3
 clear hs2 hc2 HS1
 go_wp2_with fail
 refine (z38 HS2.out (c) (x) (y + 1) (z) HB.out.2.2.2.2.1 HB.out.2.2.2.2.2.1).mono ?_
 rintro e V4 ⟨rfl, hs3, hc3⟩
 have HS3 := hid hs3
 clear hs3 hc3 HS2
 go_wp2_with fail
 (try simp only [Exit.inBlock, Exit.then])
 refine bodyPost_end (results_none rfl _ _ _) rfl ?_
 have hex : exitsZ is k ⟨21, a, b, c⟩ ⟨x, y, z + 1⟩ = (((is.getD a.toNat default).a, (⟨x + 1, 0, 2⟩ : Sq)) :: (clausesZ is a).map (fun c => (c.b, (⟨x + 2, 0, 2⟩ : Sq)))) ++ [((k : Int) + 1, ⟨x, 0, 3⟩), (c, ⟨x, y + 1, z + 1⟩)] := by simp [exitsZ, handleZ, Sq.more]
 refine ⟨rfl, ?_⟩
 rw [HZ.out, hex, rz_app]
 have := HS3.out
 rw [tabZ, if_pos hv] at this
 exact this
set_option maxRecDepth 100000 in
set_option maxHeartbeats 4000000 in
theorem step_22 {W0 : World} {Mb bc oc cc ge gs gp ce cs cp : Nat} {is : List In} {T : List Sq} {w : List Nat} {vw : Value} {W : World} (h : Ck W0 Mb (.slice (some ⟨bc, oc, none⟩) is.length cc) ge gs gp ce cs cp is.length T w vw false W) (hbc : bc < W0.heap.size) (hin : InsAt W0 bc oc is) (hall : ∀ i ∈ is, i.ok = true) (k : Nat) (hk : k < is.length) (hp : 1 ≤ (tg T k).p) (ho : (is.getD k default).op = 22) :
   Calls Tryz.prog 23 #[.pointer (some ⟨Mb, 0, none⟩), .int .i64 (k : Int)] W fun e W' => e = .returned (.tuple #[]) ∧ StC W0 Mb (.slice (some ⟨bc, oc, none⟩) is.length cc) ge gs gp ce cs cp is.length (stepZ is T w k) W' := by
 obtain ⟨i, hi⟩ : ∃ i, is.getD k default = i := ⟨_, rfl⟩
 have hok := z41 hall hk
 rw [hi] at hok ho
 obtain ⟨op, a, b, c⟩ := i
 dsimp only at ho
 subst ho
 have HA := h.below ((Below.refl W.heap.size W).alloc (Nat.le_refl _) (.cells #[.int .i64 22, .int .i64 a, .int .i64 b, .int .i64 c] 31))
 have hV1 := (MapKept.heap_alloc W (.cells #[.int .i64 22, .int .i64 a, .int .i64 b, .int .i64 c] 31)).1
 have hcell := h.cells (k := k) hk
 have hinW := hin.below h.bel hbc
 have c0 := hinW k hk 0 (by omega)
 have c1 := hinW k hk 1 (by omega)
 have c2 := hinW k hk 2 (by omega)
 have c3 := hinW k hk 3 (by omega)
 rw [hi] at c0 c1 c2 c3
 simp only [In.cell, Nat.add_zero] at c0 c1 c2 c3
 have hpz : ¬ (tg T k).p = 0 := by omega
 have hsane := h.sane _ (z50 (show k < T.length by rw [h.len]; exact hk))
 have u1 : envV (tg T k) = (tg T k).n := if_neg hpz
 have u2 : stkV (tg T k) = (tg T k).v := if_neg hpz
 have u3 : parV (tg T k) = (tg T k).p - 1 := if_neg hpz
 rw [u1, u2, u3] at hcell
 obtain ⟨⟨x, y, p⟩, hx⟩ : ∃ s, tg T k = s := ⟨_, rfl⟩
 rw [hx] at hcell hp hsane
 unfold SaneS at hsane
 obtain ⟨z, hz⟩ : ∃ z, p - 1 = z := ⟨_, rfl⟩
 dsimp only at hcell hp hsane
 rw [hz] at hcell
 obtain ⟨d1, d2, d3, -, -, -⟩ := hcell
 have HB : Hid (0 ≤ x ∧ x ≤ 100 ∧ 0 ≤ y ∧ y ≤ 100 ∧ 0 ≤ z ∧ z ≤ 2 ∧ p = z + 1 ∧ k < is.length ∧ is.length ≤ 1500) := by
   have := h.nl
   rcases hsane with hs | hs
   · omega
   · exact ⟨by omega, by omega, by omega, by omega, by omega, by omega, by omega, hk, by omega⟩
 have hp1 : p = z + 1 := HB.out.2.2.2.2.2.2.1
 have HI := hid hi
 have HX : Hid (tg T k = ⟨x, y, z + 1⟩) := by show _ = _; rw [hx, hp1]
 have HOk := hid hok
 have HF := hid (And.intro hbc (And.intro hin hall))
 have e0 := z11 h.blk 0
 have e1 := z11 h.blk 1
 have e2 := z11 h.blk 2
 have e3 := z11 h.blk 3
 simp at e0 e1 e2 e3
 obtain ⟨V, hV⟩ : ∃ V, W.alloc (.cells #[.int .i64 22, .int .i64 a, .int .i64 b, .int .i64 c] 31) = V := ⟨_, rfl⟩
 rw [hV] at HA hV1
 have HA' := hid HA
 have HV := hid hV
 have HV1 := hid hV1
 have HS0 := hid (StC.of HA)
 have q0 : (0 : Int) ≤ (k : Int) := by omega
 have q1 : (k : Int) < (is.length : Int) := by omega
 have w1 : wrap64 ((k : Int) + 1) = (k : Int) + 1 := by rw [wrap64]; have := HB.out; omega
 have w2 : wrap64 (x + 1) = x + 1 := by rw [wrap64]; have := HB.out; omega
 have w3 : wrap64 (x + 2) = x + 2 := by rw [wrap64]; have := HB.out; omega
 have w4 : wrap64 (y + 1) = y + 1 := by rw [wrap64]; have := HB.out; omega
 have w5 : wrap64 (y - 1) = y - 1 := by rw [wrap64]; have := HB.out; omega
 have w6 : wrap64 (x - 1) = x - 1 := by rw [wrap64]; have := HB.out; omega
 have HPo := hid (pops_22 V)
 clear h hin hall hbc hinW hk hp hi hok hpz hsane u1 u2 u3 hx hz hp1 hV HA hV1
 go_enter Tryz.func23, Tryz.ntmps23
 go_upto_region 1 with fail
 rw [HV.out]
 clear HV c0 c1 c2 c3 e0 e1 e2 e3 d1 d2 d3
 have hcell := HA'.out.cells (k := k) HB.out.2.2.2.2.2.2.2.1
 rw [HX.out] at hcell
 have u0 : ¬ ((⟨x, y, z + 1⟩ : Sq).p = 0) := by dsimp only; have := HB.out; omega
 rw [show envV ⟨x, y, z + 1⟩ = x from if_neg u0, show stkV ⟨x, y, z + 1⟩ = y from if_neg u0, show parV ⟨x, y, z + 1⟩ = z from (if_neg u0).trans (Int.add_sub_cancel z 1)] at hcell
 obtain ⟨d1, d2, d3, -, -, -⟩ := hcell
 have e1 := z11 HA'.out.blk 1
 have e2 := z11 HA'.out.blk 2
 have e3 := z11 HA'.out.blk 3
 have e5 := z11 HA'.out.blk 5
 have z5 := z13 HA'.out.blk 5
 have i0 := z11 HV1.out 0
 have i1 := z11 HV1.out 1
 have i3 := z11 HV1.out 3
 simp at e1 e2 e3 e5 i0 i1 i3
 clear u0
 go_wp2_with fail
 refine HPo.out.mono ?_
 rintro e _ ⟨rfl, rfl⟩
 clear d1 d2 d3 e1 e2 e3
 by_cases hpop : y < 1
 · have HZ : Hid (stepZ is T w k = none) := by
     show _ = _
     unfold stepZ
     rw [HI.out, HX.out, if_neg (fun e => by simp [needsZ] at e; omega)]
   go_wp2_with fail
   (try simp only [Exit.inBlock, Exit.then])
   refine bodyPost_ret (results_none rfl _ _ _) rfl ?_
   refine ⟨rfl, ?_⟩
   rw [HZ.out]
   exact HS0.out.flagged
 have HZ : Hid (stepZ is T w k = rz is.length (some (T, w)) [((k : Int) + 1, (⟨x, y, z + 1⟩ : Sq))]) := by
   show _ = _
   unfold stepZ
   rw [HI.out, HX.out, if_pos (by simp [needsZ]; omega)]
   simp [exitsZ]
 go_wp2_with fail
 refine (z38 HS0.out ((k : Int) + 1) (x) (y) (z) HB.out.2.2.2.2.1 HB.out.2.2.2.2.2.1).mono ?_
 rintro e V2 ⟨rfl, hs1, hc1⟩
 have HS1 := hid hs1
 clear hs1 hc1 HS0
 go_wp2_with fail
 (try simp only [Exit.inBlock, Exit.then])
 refine bodyPost_end (results_none rfl _ _ _) rfl ?_
 refine ⟨rfl, ?_⟩
 rw [HZ.out]
 exact HS1.out
set_option maxRecDepth 100000 in
set_option maxHeartbeats 4000000 in
theorem step_23 {W0 : World} {Mb bc oc cc ge gs gp ce cs cp : Nat} {is : List In} {T : List Sq} {w : List Nat} {vw : Value} {W : World} (h : Ck W0 Mb (.slice (some ⟨bc, oc, none⟩) is.length cc) ge gs gp ce cs cp is.length T w vw false W) (hbc : bc < W0.heap.size) (hin : InsAt W0 bc oc is) (hall : ∀ i ∈ is, i.ok = true) (k : Nat) (hk : k < is.length) (hp : 1 ≤ (tg T k).p) (ho : (is.getD k default).op = 23) :
   Calls Tryz.prog 23 #[.pointer (some ⟨Mb, 0, none⟩), .int .i64 (k : Int)] W fun e W' => e = .returned (.tuple #[]) ∧ StC W0 Mb (.slice (some ⟨bc, oc, none⟩) is.length cc) ge gs gp ce cs cp is.length (stepZ is T w k) W' := by
 obtain ⟨i, hi⟩ : ∃ i, is.getD k default = i := ⟨_, rfl⟩
 have hok := z41 hall hk
 rw [hi] at hok ho
 obtain ⟨op, a, b, c⟩ := i
 dsimp only at ho
 subst ho
 have HA := h.below ((Below.refl W.heap.size W).alloc (Nat.le_refl _) (.cells #[.int .i64 23, .int .i64 a, .int .i64 b, .int .i64 c] 31))
 have hV1 := (MapKept.heap_alloc W (.cells #[.int .i64 23, .int .i64 a, .int .i64 b, .int .i64 c] 31)).1
 have hcell := h.cells (k := k) hk
 have hinW := hin.below h.bel hbc
 have c0 := hinW k hk 0 (by omega)
 have c1 := hinW k hk 1 (by omega)
 have c2 := hinW k hk 2 (by omega)
 have c3 := hinW k hk 3 (by omega)
 rw [hi] at c0 c1 c2 c3
 simp only [In.cell, Nat.add_zero] at c0 c1 c2 c3
 have hpz : ¬ (tg T k).p = 0 := by omega
 have hsane := h.sane _ (z50 (show k < T.length by rw [h.len]; exact hk))
 have u1 : envV (tg T k) = (tg T k).n := if_neg hpz
 have u2 : stkV (tg T k) = (tg T k).v := if_neg hpz
 have u3 : parV (tg T k) = (tg T k).p - 1 := if_neg hpz
 rw [u1, u2, u3] at hcell
 obtain ⟨⟨x, y, p⟩, hx⟩ : ∃ s, tg T k = s := ⟨_, rfl⟩
 rw [hx] at hcell hp hsane
 unfold SaneS at hsane
 obtain ⟨z, hz⟩ : ∃ z, p - 1 = z := ⟨_, rfl⟩
 dsimp only at hcell hp hsane
 rw [hz] at hcell
 obtain ⟨d1, d2, d3, -, -, -⟩ := hcell
 have HB : Hid (0 ≤ x ∧ x ≤ 100 ∧ 0 ≤ y ∧ y ≤ 100 ∧ 0 ≤ z ∧ z ≤ 2 ∧ p = z + 1 ∧ k < is.length ∧ is.length ≤ 1500) := by
   have := h.nl
   rcases hsane with hs | hs
   · omega
   · exact ⟨by omega, by omega, by omega, by omega, by omega, by omega, by omega, hk, by omega⟩
 have hp1 : p = z + 1 := HB.out.2.2.2.2.2.2.1
 have HI := hid hi
 have HX : Hid (tg T k = ⟨x, y, z + 1⟩) := by show _ = _; rw [hx, hp1]
 have HOk := hid hok
 have HF := hid (And.intro hbc (And.intro hin hall))
 have e0 := z11 h.blk 0
 have e1 := z11 h.blk 1
 have e2 := z11 h.blk 2
 have e3 := z11 h.blk 3
 simp at e0 e1 e2 e3
 obtain ⟨V, hV⟩ : ∃ V, W.alloc (.cells #[.int .i64 23, .int .i64 a, .int .i64 b, .int .i64 c] 31) = V := ⟨_, rfl⟩
 rw [hV] at HA hV1
 have HA' := hid HA
 have HV := hid hV
 have HV1 := hid hV1
 have HS0 := hid (StC.of HA)
 have q0 : (0 : Int) ≤ (k : Int) := by omega
 have q1 : (k : Int) < (is.length : Int) := by omega
 have w1 : wrap64 ((k : Int) + 1) = (k : Int) + 1 := by rw [wrap64]; have := HB.out; omega
 have w2 : wrap64 (x + 1) = x + 1 := by rw [wrap64]; have := HB.out; omega
 have w3 : wrap64 (x + 2) = x + 2 := by rw [wrap64]; have := HB.out; omega
 have w4 : wrap64 (y + 1) = y + 1 := by rw [wrap64]; have := HB.out; omega
 have w5 : wrap64 (y - 1) = y - 1 := by rw [wrap64]; have := HB.out; omega
 have w6 : wrap64 (x - 1) = x - 1 := by rw [wrap64]; have := HB.out; omega
 have HPo := hid (pops_23 V)
 clear h hin hall hbc hinW hk hp hi hok hpz hsane u1 u2 u3 hx hz hp1 hV HA hV1
 go_enter Tryz.func23, Tryz.ntmps23
 go_upto_region 1 with fail
 rw [HV.out]
 clear HV c0 c1 c2 c3 e0 e1 e2 e3 d1 d2 d3
 have hcell := HA'.out.cells (k := k) HB.out.2.2.2.2.2.2.2.1
 rw [HX.out] at hcell
 have u0 : ¬ ((⟨x, y, z + 1⟩ : Sq).p = 0) := by dsimp only; have := HB.out; omega
 rw [show envV ⟨x, y, z + 1⟩ = x from if_neg u0, show stkV ⟨x, y, z + 1⟩ = y from if_neg u0, show parV ⟨x, y, z + 1⟩ = z from (if_neg u0).trans (Int.add_sub_cancel z 1)] at hcell
 obtain ⟨d1, d2, d3, -, -, -⟩ := hcell
 have e1 := z11 HA'.out.blk 1
 have e2 := z11 HA'.out.blk 2
 have e3 := z11 HA'.out.blk 3
 have e5 := z11 HA'.out.blk 5
 have z5 := z13 HA'.out.blk 5
 have i0 := z11 HV1.out 0
 have i1 := z11 HV1.out 1
 have i3 := z11 HV1.out 3
 simp at e1 e2 e3 e5 i0 i1 i3
 clear u0
 go_wp2_with fail
 refine HPo.out.mono ?_
 rintro e _ ⟨rfl, rfl⟩
 clear d1 d2 d3 e1 e2 e3
 by_cases hpop : y < 1
 · have HZ : Hid (stepZ is T w k = none) := by
     show _ = _
     unfold stepZ
     rw [HI.out, HX.out, if_neg (fun e => by simp [needsZ] at e; omega)]
   go_wp2_with fail
   (try simp only [Exit.inBlock, Exit.then])
   refine bodyPost_ret (results_none rfl _ _ _) rfl ?_
   refine ⟨rfl, ?_⟩
   rw [HZ.out]
   exact HS0.out.flagged
 by_cases f1 : y = 1
 case neg =>
   have HZ : Hid (stepZ is T w k = none) := by
     show _ = _
     unfold stepZ
     rw [HI.out, HX.out, if_neg (fun e => by simp [needsZ] at e; omega)]
   have f1n : (y != 1) = true := by simp [f1]
   go_wp2_with fail
   (try simp only [Exit.inBlock, Exit.then])
   refine bodyPost_end (results_none rfl _ _ _) rfl ?_
   refine ⟨rfl, ?_⟩
   rw [HZ.out]
   exact HS0.out.flagged
 by_cases f2 : z = 2
 case neg =>
   have HZ : Hid (stepZ is T w k = none) := by
     show _ = _
     unfold stepZ
     rw [HI.out, HX.out, if_neg (fun e => by simp [needsZ] at e; omega)]
   have f1n : (y != 1) = false := by simp [f1]
   have f2n : (z != 2) = true := by simp [f2]
   clear f1
   go_wp2_with fail
   (try simp only [Exit.inBlock, Exit.then])
   refine bodyPost_end (results_none rfl _ _ _) rfl ?_
   refine ⟨rfl, ?_⟩
   rw [HZ.out]
   exact HS0.out.flagged
 have HZ : Hid (stepZ is T w k = some (T, w)) := by
   show _ = _
   unfold stepZ
   rw [HI.out, HX.out, if_pos (by simp [needsZ]; omega)]
   rfl
 have f1n : (y != 1) = false := by simp [f1]
 have f2n : (z != 2) = false := by simp [f2]
 clear f1 f2
 go_wp2_with fail
 (try simp only [Exit.inBlock, Exit.then])
 refine bodyPost_end (results_none rfl _ _ _) rfl ?_
 refine ⟨rfl, ?_⟩
 rw [HZ.out]
 exact StC.of (HA'.out.flag false)
set_option maxRecDepth 100000 in
set_option maxHeartbeats 4000000 in
theorem step_24 {W0 : World} {Mb bc oc cc ge gs gp ce cs cp : Nat} {is : List In} {T : List Sq} {w : List Nat} {vw : Value} {W : World} (h : Ck W0 Mb (.slice (some ⟨bc, oc, none⟩) is.length cc) ge gs gp ce cs cp is.length T w vw false W) (hbc : bc < W0.heap.size) (hin : InsAt W0 bc oc is) (hall : ∀ i ∈ is, i.ok = true) (k : Nat) (hk : k < is.length) (hp : 1 ≤ (tg T k).p) (ho : (is.getD k default).op = 24) :
   Calls Tryz.prog 23 #[.pointer (some ⟨Mb, 0, none⟩), .int .i64 (k : Int)] W fun e W' => e = .returned (.tuple #[]) ∧ StC W0 Mb (.slice (some ⟨bc, oc, none⟩) is.length cc) ge gs gp ce cs cp is.length (stepZ is T w k) W' := by
 obtain ⟨i, hi⟩ : ∃ i, is.getD k default = i := ⟨_, rfl⟩
 have hok := z41 hall hk
 rw [hi] at hok ho
 obtain ⟨op, a, b, c⟩ := i
 dsimp only at ho
 subst ho
 have HA := h.below ((Below.refl W.heap.size W).alloc (Nat.le_refl _) (.cells #[.int .i64 24, .int .i64 a, .int .i64 b, .int .i64 c] 31))
 have hV1 := (MapKept.heap_alloc W (.cells #[.int .i64 24, .int .i64 a, .int .i64 b, .int .i64 c] 31)).1
 have hcell := h.cells (k := k) hk
 have hinW := hin.below h.bel hbc
 have c0 := hinW k hk 0 (by omega)
 have c1 := hinW k hk 1 (by omega)
 have c2 := hinW k hk 2 (by omega)
 have c3 := hinW k hk 3 (by omega)
 rw [hi] at c0 c1 c2 c3
 simp only [In.cell, Nat.add_zero] at c0 c1 c2 c3
 have hpz : ¬ (tg T k).p = 0 := by omega
 have hsane := h.sane _ (z50 (show k < T.length by rw [h.len]; exact hk))
 have u1 : envV (tg T k) = (tg T k).n := if_neg hpz
 have u2 : stkV (tg T k) = (tg T k).v := if_neg hpz
 have u3 : parV (tg T k) = (tg T k).p - 1 := if_neg hpz
 rw [u1, u2, u3] at hcell
 obtain ⟨⟨x, y, p⟩, hx⟩ : ∃ s, tg T k = s := ⟨_, rfl⟩
 rw [hx] at hcell hp hsane
 unfold SaneS at hsane
 obtain ⟨z, hz⟩ : ∃ z, p - 1 = z := ⟨_, rfl⟩
 dsimp only at hcell hp hsane
 rw [hz] at hcell
 obtain ⟨d1, d2, d3, -, -, -⟩ := hcell
 have HB : Hid (0 ≤ x ∧ x ≤ 100 ∧ 0 ≤ y ∧ y ≤ 100 ∧ 0 ≤ z ∧ z ≤ 2 ∧ p = z + 1 ∧ k < is.length ∧ is.length ≤ 1500) := by
   have := h.nl
   rcases hsane with hs | hs
   · omega
   · exact ⟨by omega, by omega, by omega, by omega, by omega, by omega, by omega, hk, by omega⟩
 have hp1 : p = z + 1 := HB.out.2.2.2.2.2.2.1
 have HI := hid hi
 have HX : Hid (tg T k = ⟨x, y, z + 1⟩) := by show _ = _; rw [hx, hp1]
 have HOk := hid hok
 have HF := hid (And.intro hbc (And.intro hin hall))
 have e0 := z11 h.blk 0
 have e1 := z11 h.blk 1
 have e2 := z11 h.blk 2
 have e3 := z11 h.blk 3
 simp at e0 e1 e2 e3
 obtain ⟨V, hV⟩ : ∃ V, W.alloc (.cells #[.int .i64 24, .int .i64 a, .int .i64 b, .int .i64 c] 31) = V := ⟨_, rfl⟩
 rw [hV] at HA hV1
 have HA' := hid HA
 have HV := hid hV
 have HV1 := hid hV1
 have HS0 := hid (StC.of HA)
 have q0 : (0 : Int) ≤ (k : Int) := by omega
 have q1 : (k : Int) < (is.length : Int) := by omega
 have w1 : wrap64 ((k : Int) + 1) = (k : Int) + 1 := by rw [wrap64]; have := HB.out; omega
 have w2 : wrap64 (x + 1) = x + 1 := by rw [wrap64]; have := HB.out; omega
 have w3 : wrap64 (x + 2) = x + 2 := by rw [wrap64]; have := HB.out; omega
 have w4 : wrap64 (y + 1) = y + 1 := by rw [wrap64]; have := HB.out; omega
 have w5 : wrap64 (y - 1) = y - 1 := by rw [wrap64]; have := HB.out; omega
 have w6 : wrap64 (x - 1) = x - 1 := by rw [wrap64]; have := HB.out; omega
 have HPo := hid (pops_24 V)
 clear h hin hall hbc hinW hk hp hi hok hpz hsane u1 u2 u3 hx hz hp1 hV HA hV1
 go_enter Tryz.func23, Tryz.ntmps23
 go_upto_region 1 with fail
 rw [HV.out]
 clear HV c0 c1 c2 c3 e0 e1 e2 e3 d1 d2 d3
 have hcell := HA'.out.cells (k := k) HB.out.2.2.2.2.2.2.2.1
 rw [HX.out] at hcell
 have u0 : ¬ ((⟨x, y, z + 1⟩ : Sq).p = 0) := by dsimp only; have := HB.out; omega
 rw [show envV ⟨x, y, z + 1⟩ = x from if_neg u0, show stkV ⟨x, y, z + 1⟩ = y from if_neg u0, show parV ⟨x, y, z + 1⟩ = z from (if_neg u0).trans (Int.add_sub_cancel z 1)] at hcell
 obtain ⟨d1, d2, d3, -, -, -⟩ := hcell
 have e1 := z11 HA'.out.blk 1
 have e2 := z11 HA'.out.blk 2
 have e3 := z11 HA'.out.blk 3
 have e5 := z11 HA'.out.blk 5
 have z5 := z13 HA'.out.blk 5
 have i0 := z11 HV1.out 0
 have i1 := z11 HV1.out 1
 have i3 := z11 HV1.out 3
 simp at e1 e2 e3 e5 i0 i1 i3
 clear u0
 go_wp2_with fail
 refine HPo.out.mono ?_
 rintro e _ ⟨rfl, rfl⟩
 clear d1 d2 d3 e1 e2 e3
 have hy0 : ¬ y < 0 := by have := HB.out; omega
 have HZ : Hid (stepZ is T w k = none) := by
   show _ = _
   unfold stepZ
   rw [HI.out, HX.out, if_neg (by simp [needsZ])]
 go_wp2_with fail
 (try simp only [Exit.inBlock, Exit.then])
 refine bodyPost_end (results_none rfl _ _ _) rfl ?_
 refine ⟨rfl, ?_⟩
 rw [HZ.out]
 exact HS0.out.flagged
set_option maxRecDepth 100000 in
set_option maxHeartbeats 4000000 in
theorem step_25 {W0 : World} {Mb bc oc cc ge gs gp ce cs cp : Nat} {is : List In} {T : List Sq} {w : List Nat} {vw : Value} {W : World} (h : Ck W0 Mb (.slice (some ⟨bc, oc, none⟩) is.length cc) ge gs gp ce cs cp is.length T w vw false W) (hbc : bc < W0.heap.size) (hin : InsAt W0 bc oc is) (hall : ∀ i ∈ is, i.ok = true) (k : Nat) (hk : k < is.length) (hp : 1 ≤ (tg T k).p) (ho : (is.getD k default).op = 25) :
   Calls Tryz.prog 23 #[.pointer (some ⟨Mb, 0, none⟩), .int .i64 (k : Int)] W fun e W' => e = .returned (.tuple #[]) ∧ StC W0 Mb (.slice (some ⟨bc, oc, none⟩) is.length cc) ge gs gp ce cs cp is.length (stepZ is T w k) W' := by
 obtain ⟨i, hi⟩ : ∃ i, is.getD k default = i := ⟨_, rfl⟩
 have hok := z41 hall hk
 rw [hi] at hok ho
 obtain ⟨op, a, b, c⟩ := i
 dsimp only at ho
 subst ho
 have HA := h.below ((Below.refl W.heap.size W).alloc (Nat.le_refl _) (.cells #[.int .i64 25, .int .i64 a, .int .i64 b, .int .i64 c] 31))
 have hV1 := (MapKept.heap_alloc W (.cells #[.int .i64 25, .int .i64 a, .int .i64 b, .int .i64 c] 31)).1
 have hcell := h.cells (k := k) hk
 have hinW := hin.below h.bel hbc
 have c0 := hinW k hk 0 (by omega)
 have c1 := hinW k hk 1 (by omega)
 have c2 := hinW k hk 2 (by omega)
 have c3 := hinW k hk 3 (by omega)
 rw [hi] at c0 c1 c2 c3
 simp only [In.cell, Nat.add_zero] at c0 c1 c2 c3
 have hpz : ¬ (tg T k).p = 0 := by omega
 have hsane := h.sane _ (z50 (show k < T.length by rw [h.len]; exact hk))
 have u1 : envV (tg T k) = (tg T k).n := if_neg hpz
 have u2 : stkV (tg T k) = (tg T k).v := if_neg hpz
 have u3 : parV (tg T k) = (tg T k).p - 1 := if_neg hpz
 rw [u1, u2, u3] at hcell
 obtain ⟨⟨x, y, p⟩, hx⟩ : ∃ s, tg T k = s := ⟨_, rfl⟩
 rw [hx] at hcell hp hsane
 unfold SaneS at hsane
 obtain ⟨z, hz⟩ : ∃ z, p - 1 = z := ⟨_, rfl⟩
 dsimp only at hcell hp hsane
 rw [hz] at hcell
 obtain ⟨d1, d2, d3, -, -, -⟩ := hcell
 have HB : Hid (0 ≤ x ∧ x ≤ 100 ∧ 0 ≤ y ∧ y ≤ 100 ∧ 0 ≤ z ∧ z ≤ 2 ∧ p = z + 1 ∧ k < is.length ∧ is.length ≤ 1500) := by
   have := h.nl
   rcases hsane with hs | hs
   · omega
   · exact ⟨by omega, by omega, by omega, by omega, by omega, by omega, by omega, hk, by omega⟩
 have hp1 : p = z + 1 := HB.out.2.2.2.2.2.2.1
 have HI := hid hi
 have HX : Hid (tg T k = ⟨x, y, z + 1⟩) := by show _ = _; rw [hx, hp1]
 have HOk := hid hok
 have HF := hid (And.intro hbc (And.intro hin hall))
 have e0 := z11 h.blk 0
 have e1 := z11 h.blk 1
 have e2 := z11 h.blk 2
 have e3 := z11 h.blk 3
 simp at e0 e1 e2 e3
 obtain ⟨V, hV⟩ : ∃ V, W.alloc (.cells #[.int .i64 25, .int .i64 a, .int .i64 b, .int .i64 c] 31) = V := ⟨_, rfl⟩
 rw [hV] at HA hV1
 have HA' := hid HA
 have HV := hid hV
 have HV1 := hid hV1
 have HS0 := hid (StC.of HA)
 have q0 : (0 : Int) ≤ (k : Int) := by omega
 have q1 : (k : Int) < (is.length : Int) := by omega
 have w1 : wrap64 ((k : Int) + 1) = (k : Int) + 1 := by rw [wrap64]; have := HB.out; omega
 have w2 : wrap64 (x + 1) = x + 1 := by rw [wrap64]; have := HB.out; omega
 have w3 : wrap64 (x + 2) = x + 2 := by rw [wrap64]; have := HB.out; omega
 have w4 : wrap64 (y + 1) = y + 1 := by rw [wrap64]; have := HB.out; omega
 have w5 : wrap64 (y - 1) = y - 1 := by rw [wrap64]; have := HB.out; omega
 have w6 : wrap64 (x - 1) = x - 1 := by rw [wrap64]; have := HB.out; omega
 have HPo := hid (pops_25 V)
 clear h hin hall hbc hinW hk hp hi hok hpz hsane u1 u2 u3 hx hz hp1 hV HA hV1
 go_enter Tryz.func23, Tryz.ntmps23
 go_upto_region 1 with fail
 rw [HV.out]
 clear HV c0 c1 c2 c3 e0 e1 e2 e3 d1 d2 d3
 have hcell := HA'.out.cells (k := k) HB.out.2.2.2.2.2.2.2.1
 rw [HX.out] at hcell
 have u0 : ¬ ((⟨x, y, z + 1⟩ : Sq).p = 0) := by dsimp only; have := HB.out; omega
 rw [show envV ⟨x, y, z + 1⟩ = x from if_neg u0, show stkV ⟨x, y, z + 1⟩ = y from if_neg u0, show parV ⟨x, y, z + 1⟩ = z from (if_neg u0).trans (Int.add_sub_cancel z 1)] at hcell
 obtain ⟨d1, d2, d3, -, -, -⟩ := hcell
 have e1 := z11 HA'.out.blk 1
 have e2 := z11 HA'.out.blk 2
 have e3 := z11 HA'.out.blk 3
 have e5 := z11 HA'.out.blk 5
 have z5 := z13 HA'.out.blk 5
 have i0 := z11 HV1.out 0
 have i1 := z11 HV1.out 1
 have i3 := z11 HV1.out 3
 simp at e1 e2 e3 e5 i0 i1 i3
 clear u0
 go_wp2_with fail
 refine HPo.out.mono ?_
 rintro e _ ⟨rfl, rfl⟩
 clear d1 d2 d3 e1 e2 e3
 have hy0 : ¬ y < 0 := by have := HB.out; omega
 have HZ : Hid (stepZ is T w k = none) := by
   show _ = _
   unfold stepZ
   rw [HI.out, HX.out, if_neg (by simp [needsZ])]
 go_wp2_with fail
 (try simp only [Exit.inBlock, Exit.then])
 refine bodyPost_end (results_none rfl _ _ _) rfl ?_
 refine ⟨rfl, ?_⟩
 rw [HZ.out]
 exact HS0.out.flagged
end
section
open Go.RowKit
set_option maxHeartbeats 1000000 in
set_option maxRecDepth 100000 in
theorem specInsOk_calls (op a b c : Int) (w : World) :
   Calls Tryz.prog 21 #[.agg #[.int .i64 op, .int .i64 a, .int .i64 b, .int .i64 c]] w fun e w' => e = .returned (.bool (insOkZ op a b c)) ∧ Below w.heap.size w w' := by
 go_enter Tryz.func21, Tryz.ntmps21
 go_wp2_with fail
 refine (l5Many_calls _ _).mono ?_
 rintro e w1 ⟨rfl, rfl⟩
 go_wp2_with fail
 all_goals
   go_ret
   refine ⟨congrArg (fun b => Ending.returned (Value.bool b)) ?_, (Below.refl _ _).alloc (Nat.le_refl _) _⟩
   first | (simp_all [insOkZ]; done) | (simp_all [insOkZ]; omega) | (rw [show (a == 0 || a == 1) = decide (a = 0 ∨ a = 1) by apply Bool.eq_iff_iff.mpr; simp]; simp_all [insOkZ]; done)
end
section
open Go.RowKit
theorem ok_op {i : In} (h : i.ok = true) : 0 ≤ i.op ∧ i.op ≤ 25 := by
 unfold In.ok insOkZ at h
 split at h
 · cases h
 · rename_i hn
   have h0 : ¬ manyZ i.op < 0 := fun e => hn (Or.inl e)
   unfold manyZ at h0
   repeat' split at h0
   all_goals omega
theorem step_calls {W0 : World} {Mb bc oc cc ge gs gp ce cs cp : Nat} {is : List In} {T : List Sq} {w : List Nat} {vw : Value} {W : World} (h : Ck W0 Mb (.slice (some ⟨bc, oc, none⟩) is.length cc) ge gs gp ce cs cp is.length T w vw false W) (hbc : bc < W0.heap.size) (hin : InsAt W0 bc oc is) (hall : ∀ i ∈ is, i.ok = true) (k : Nat) (hk : k < is.length) (hp : 1 ≤ (tg T k).p) :
   Calls Tryz.prog 23 #[.pointer (some ⟨Mb, 0, none⟩), .int .i64 (k : Int)] W fun e W' => e = .returned (.tuple #[]) ∧ StC W0 Mb (.slice (some ⟨bc, oc, none⟩) is.length cc) ge gs gp ce cs cp is.length (stepZ is T w k) W' := by
 have ho := ok_op (z41 hall hk)
 rcases ops_cases (is.getD k default).op with hz | hz
 · omega
 rcases hz with ho0 | ho1 | ho2 | ho3 | ho4 | ho5 | ho6 | ho7 | ho8 | ho9 | ho10 | ho11 | ho12 | ho13 | ho14 | ho15 | ho16 | ho17 | ho18 | ho19 | ho20 | ho21 | ho22 | ho23 | ho24 | ho25
 · exact step_0 h hbc hin hall k hk hp ho0
 · exact step_1 h hbc hin hall k hk hp ho1
 · exact step_2 h hbc hin hall k hk hp ho2
 · exact step_3 h hbc hin hall k hk hp ho3
 · exact step_4 h hbc hin hall k hk hp ho4
 · exact step_5 h hbc hin hall k hk hp ho5
 · exact step_6 h hbc hin hall k hk hp ho6
 · exact step_7 h hbc hin hall k hk hp ho7
 · exact step_8 h hbc hin hall k hk hp ho8
 · exact step_9 h hbc hin hall k hk hp ho9
 · exact step_10 h hbc hin hall k hk hp ho10
 · exact step_11 h hbc hin hall k hk hp ho11
 · exact step_12 h hbc hin hall k hk hp ho12
 · exact step_13 h hbc hin hall k hk hp ho13
 · exact step_14 h hbc hin hall k hk hp ho14
 · exact step_15 h hbc hin hall k hk hp ho15
 · exact step_16 h hbc hin hall k hk hp ho16
 · exact step_17 h hbc hin hall k hk hp ho17
 · exact step_18 h hbc hin hall k hk hp ho18
 · exact step_19 h hbc hin hall k hk hp ho19
 · exact step_20 h hbc hin hall k hk hp ho20
 · exact step_21 h hbc hin hall k hk hp ho21
 · exact step_22 h hbc hin hall k hk hp ho22
 · exact step_23 h hbc hin hall k hk hp ho23
 · exact step_24 h hbc hin hall k hk hp ho24
 · exact step_25 h hbc hin hall k hk hp ho25
def Ap (a b : Value) : Prop := ∀ g, a.ownBlock = some g → b.ownBlock ≠ some g
theorem Ap.symm {a b : Value} (h : Ap a b) : Ap b a := fun g h1 h2 => h g h2 h1

structure Own3 (B : Nat) (W : World) (a b c : Value) (na nb nc : Nat) (xs ys zs : List Value) : Prop where
 ra : W.ownsRow B 3 1 a na xs
 rb : W.ownsRow B 3 1 b nb ys
 rc : W.ownsRow B 3 1 c nc zs
 ab : Ap a b
 ac : Ap a c
 bc : Ap b c
theorem Own3.turn {B : Nat} {W : World} {a b c : Value} {na nb nc : Nat} {xs ys zs : List Value} (h : Own3 B W a b c na nb nc xs ys zs) : Own3 B W b c a nb nc na ys zs xs := ⟨h.rb, h.rc, h.ra, h.bc, h.ab.symm, h.ac.symm⟩
theorem Own3.app {B : Nat} {W W1 W' : World} {a b c a' : Value} {na nb nc : Nat} {xs ys zs : List Value} {x : Value} (h : Own3 B W a b c na nb nc xs ys zs) (hb : Below W.heap.size W W1) (ho : W'.ownsRow B 3 1 a' (na + 1) (xs ++ [x])) (hg : W1.grownBy W' a.ownBlock) (ha : a'.ownBlock = a.ownBlock ∨ a'.ownBlock = some W1.heap.size) : Own3 B W' a' b c (na + 1) nb nc (xs ++ [x]) ys zs := by
 have lt : ∀ {v : Value} {n : Nat} {l : List Value}, W.ownsRow B 3 1 v n l → ∀ g, v.ownBlock = some g → g < W.heap.size := fun {v n l} hr g hg => by
   obtain ⟨-, cur, hc⟩ := z44 hr hg
   exact z26 hc
 have keep : ∀ {v : Value} {n : Nat} {l : List Value}, W.ownsRow B 3 1 v n l → Ap a v → W'.ownsRow B 3 1 v n l := fun {v n l} hr hap => ck_same hr (fun g hv => (hg.block g (Nat.lt_of_lt_of_le (lt hr g hv) hb.size) (fun e => hap g e.symm hv)).trans (hb.block g (lt hr g hv)))
 have ap : ∀ {v : Value} {n : Nat} {l : List Value}, W.ownsRow B 3 1 v n l → Ap a v → Ap a' v := fun {v n l} hr hap g h1 h2 => by
   rcases ha with e | e
   · exact hap g (e ▸ h1) h2
   · rw [e] at h1
     have := Option.some.inj h1
     have := lt hr g h2
     have := hb.size
     omega
 exact ⟨ho, keep h.rb h.ab, keep h.rc h.ac, ap h.rb h.ab, ap h.rc h.ac, h.bc⟩
theorem Own3.set {B : Nat} {W : World} {a b c : Value} {na nb nc : Nat} {xs ys zs : List Value} (h : Own3 B W a b c na nb nc xs ys zs) {Mb i : Nat} {c0 : Array Value} (hb : W.heap[Mb]? = some (.cells c0 47)) (v : Value) : Own3 B (W.setCell ⟨Mb, i, none⟩ v) a b c na nb nc xs ys zs := by
 have keep : ∀ {v' : Value} {n : Nat} {l : List Value}, W.ownsRow B 3 1 v' n l → (W.setCell ⟨Mb, i, none⟩ v).ownsRow B 3 1 v' n l := fun {v' n l} hr => ck_same hr (fun g hv => Below.heap_setCell W ⟨Mb, i, none⟩ _ g (fun e => by
   have e' : g = Mb := e
   subst e'
   obtain ⟨-, cur, hc⟩ := z44 hr hv
   rw [hb] at hc
   cases hc))
 exact ⟨keep h.ra, keep h.rb, keep h.rc, h.ab, h.ac, h.bc⟩

structure Bd (W0 : World) (Mb : Nat) (vc a b c : Value) (na nb nc : Nat) (bad : Bool) (W : World) : Prop where
 blk : W.heap[Mb]? = some (.cells #[vc, a, b, c, .slice none 0 0, .bool bad] 47)
 rows : Own3 W0.heap.size W a b c na nb nc (List.replicate na (.int .i64 (-1))) (List.replicate nb (.int .i64 (-1))) (List.replicate nc (.int .i64 0))
 mb : W0.heap.size ≤ Mb
 bel : Below W0.heap.size W0 W
theorem Bd.below {W0 : World} {Mb : Nat} {vc a b c : Value} {na nb nc : Nat} {bad : Bool} {W W' : World} (h : Bd W0 Mb vc a b c na nb nc bad W) (hb : Below W.heap.size W W') : Bd W0 Mb vc a b c na nb nc bad W' :=
 ⟨(hb.block _ (z26 h.blk)).trans h.blk, ⟨z58 h.rows.ra hb, z58 h.rows.rb hb, z58 h.rows.rc hb, h.rows.ab, h.rows.ac, h.rows.bc⟩, h.mb, h.bel.trans (hb.mono h.bel.size)⟩
theorem Bd.flag {W0 : World} {Mb : Nat} {vc a b c : Value} {na nb nc : Nat} {bad : Bool} {W : World} (h : Bd W0 Mb vc a b c na nb nc bad W) (x : Bool) : Bd W0 Mb vc a b c na nb nc x (W.setCell ⟨Mb, 5, none⟩ (.bool x)) :=
 ⟨by simp [World.setCell, Array.getElem?_modify, h.blk], h.rows.set h.blk _, h.mb, ⟨h.bel.os, h.bel.tape, h.bel.output, by simpa [World.setCell] using h.bel.size, fun q hq => (Below.heap_setCell W ⟨Mb, 5, none⟩ _ q (by have := h.mb; dsimp only; omega)).trans (h.bel.block q hq)⟩⟩
theorem grown_bel {W0 W W1 W' : World} {B : Nat} {v : Value} {n : Nat} {xs : List Value} {Mb i : Nat} {u : Value} (h : Below W0.heap.size W0 W) (hr : W.ownsRow W0.heap.size 3 B v n xs) (hb : Below W.heap.size W W1) (hg : W1.grownBy W' v.ownBlock) (hm : W0.heap.size ≤ Mb) : Below W0.heap.size W0 (W'.setCell ⟨Mb, i, none⟩ u) :=
 ⟨hg.os.trans (hb.os.trans h.os), hg.tape.trans (hb.tape.trans h.tape), hg.output.trans (hb.output.trans h.output), by have := h.size; have := hb.size; have := hg.size; simp [World.setCell]; omega, fun q hq => by
   refine (Below.heap_setCell W' ⟨Mb, i, none⟩ _ q (by dsimp only; omega)).trans ((hg.block q (by have := h.size; have := hb.size; omega) (fun e => ?_)).trans ((hb.block q (by have := h.size; omega)).trans (h.block q hq)))
   have := (z44 hr e.symm).1
   omega⟩
theorem grown_blk {W W1 W' : World} {B : Nat} {v : Value} {n : Nat} {xs : List Value} {Mb : Nat} {c0 : Array Value} (hr : W.ownsRow B 3 1 v n xs) (hb : Below W.heap.size W W1) (hg : W1.grownBy W' v.ownBlock) (hm : W.heap[Mb]? = some (.cells c0 47)) : W'.heap[Mb]? = some (.cells c0 47) :=
 (hg.block Mb (Nat.lt_of_lt_of_le (z26 hm) hb.size) (fun e => by
   obtain ⟨-, cur, hc⟩ := z44 hr e.symm
   rw [hm] at hc
   cases hc)).trans ((hb.block Mb (z26 hm)).trans hm)
theorem rep_more (n : Nat) (v : Value) : List.replicate (n + 1) v = List.replicate n v ++ [v] := List.replicate_succ'
theorem Bd.app1 {W0 : World} {Mb : Nat} {vc a b c a' : Value} {na nb nc : Nat} {bad : Bool} {W W1 W' : World} (h : Bd W0 Mb vc a b c na nb nc bad W) (hb : Below W.heap.size W W1) (ho : W'.ownsRow W0.heap.size 3 1 a' (na + 1) (List.replicate na (.int .i64 (-1)) ++ [.int .i64 (-1)])) (hg : W1.grownBy W' a.ownBlock) (ha : a'.ownBlock = a.ownBlock ∨ a'.ownBlock = some W1.heap.size) : Bd W0 Mb vc a' b c (na + 1) nb nc bad (W'.setCell ⟨Mb, 1, none⟩ a') := by
 have hk := grown_blk h.rows.ra hb hg h.blk
 have hO := (h.rows.app hb ho hg ha).set (i := 1) hk a'
 rw [← rep_more] at hO
 exact ⟨by simp [World.setCell, Array.getElem?_modify, hk], hO, h.mb, grown_bel h.bel h.rows.ra hb hg h.mb⟩
theorem Bd.app2 {W0 : World} {Mb : Nat} {vc a b c b' : Value} {na nb nc : Nat} {bad : Bool} {W W1 W' : World} (h : Bd W0 Mb vc a b c na nb nc bad W) (hb : Below W.heap.size W W1) (ho : W'.ownsRow W0.heap.size 3 1 b' (nb + 1) (List.replicate nb (.int .i64 (-1)) ++ [.int .i64 (-1)])) (hg : W1.grownBy W' b.ownBlock) (ha : b'.ownBlock = b.ownBlock ∨ b'.ownBlock = some W1.heap.size) : Bd W0 Mb vc a b' c na (nb + 1) nc bad (W'.setCell ⟨Mb, 2, none⟩ b') := by
 have hk := grown_blk h.rows.rb hb hg h.blk
 have hO := ((h.rows.turn.app hb ho hg ha).turn.turn).set (i := 2) hk b'
 rw [← rep_more] at hO
 exact ⟨by simp [World.setCell, Array.getElem?_modify, hk], hO, h.mb, grown_bel h.bel h.rows.rb hb hg h.mb⟩
theorem Bd.app3 {W0 : World} {Mb : Nat} {vc a b c c' : Value} {na nb nc : Nat} {bad : Bool} {W W1 W' : World} (h : Bd W0 Mb vc a b c na nb nc bad W) (hb : Below W.heap.size W W1) (ho : W'.ownsRow W0.heap.size 3 1 c' (nc + 1) (List.replicate nc (.int .i64 0) ++ [.int .i64 0])) (hg : W1.grownBy W' c.ownBlock) (ha : c'.ownBlock = c.ownBlock ∨ c'.ownBlock = some W1.heap.size) : Bd W0 Mb vc a b c' na nb (nc + 1) bad (W'.setCell ⟨Mb, 3, none⟩ c') := by
 have hk := grown_blk h.rows.rc hb hg h.blk
 have hO := ((h.rows.turn.turn.app hb ho hg ha).turn).set (i := 3) hk c'
 rw [← rep_more] at hO
 exact ⟨by simp [World.setCell, Array.getElem?_modify, hk], hO, h.mb, grown_bel h.bel h.rows.rc hb hg h.mb⟩
theorem Bd.start {W0 : World} {Mb : Nat} {vc a b c : Value} {N : Nat} {W : World} (h : Bd W0 Mb vc a b c N N N false W) (h0 : 0 < N) (hN : N ≤ 1500) : ∃ ge gs gp ce cs cp, a = .slice (some ⟨ge, 0, none⟩) N ce ∧ b = .slice (some ⟨gs, 0, none⟩) N cs ∧ c = .slice (some ⟨gp, 0, none⟩) N cp ∧ Ck W0 Mb vc ge gs gp ce cs cp N (List.replicate N ⟨0, 0, 0⟩) [] (.slice none 0 0) false W := by
 have form : ∀ {v : Value} {xs : List Value}, W.ownsRow W0.heap.size 3 1 v N xs → ∃ g c, v = .slice (some ⟨g, 0, none⟩) N c := fun {v xs} hr => by
   obtain ⟨-, ⟨-, e⟩ | ⟨g, cap, cur, rfl, -⟩⟩ := hr
   · omega
   · exact ⟨g, cap, rfl⟩
 obtain ⟨ge, ce, rfl⟩ := form h.rows.ra
 obtain ⟨gs, cs, rfl⟩ := form h.rows.rb
 obtain ⟨gp, cp, rfl⟩ := form h.rows.rc
 have rep : ∀ f : Sq → Int, rowI f (List.replicate N ⟨0, 0, 0⟩) = List.replicate N (.int .i64 (f ⟨0, 0, 0⟩)) := fun f => by
   unfold rowI
   rw [List.map_replicate]
 have fr := free_le (List.replicate N (⟨0, 0, 0⟩ : Sq))
 rw [List.length_replicate] at fr
 refine ⟨ge, gs, gp, ce, cs, cp, rfl, rfl, rfl, h.blk, ?_, ?_, ?_, World.ownsRow_nil _ _ _ _, ⟨fun e => h.rows.ab ge rfl (by rw [e]; rfl), fun e => h.rows.ac ge rfl (by rw [e]; rfl), fun e => h.rows.bc gs rfl (by rw [e]; rfl), fun e => (by cases e), fun e => (by cases e), fun e => (by cases e)⟩, List.length_replicate, hN, fun s hs => ?_, by simpa using fr, h.mb, h.bel⟩
 · rw [rep]
   exact h.rows.ra
 · rw [rep]
   exact h.rows.rb
 · rw [rep]
   exact h.rows.rc
 · rw [List.eq_of_mem_replicate hs]
   exact Or.inl ⟨rfl, rfl, rfl⟩
end
section
open Go.RowKit Go.Deep
theorem Ck.pop {W0 : World} {Mb : Nat} {vc : Value} {ge gs gp ce cs cp N : Nat} {T : List Sq} {w : List Nat} {gw lw cw m : Nat} {bad : Bool} {W : World} (h : Ck W0 Mb vc ge gs gp ce cs cp N T w (.slice (some ⟨gw, 0, none⟩) lw cw) bad W) (hm : w.length = m + 1) :
   Ck W0 Mb vc ge gs gp ce cs cp N T (w.take m) (.slice (some ⟨gw, 0, none⟩) m cw) bad (W.setCell ⟨Mb, 4, none⟩ (.slice (some ⟨gw, 0, none⟩) m cw)) := by
 have ho : ∀ q, q ≠ Mb → (W.setCell ⟨Mb, 4, none⟩ (.slice (some ⟨gw, 0, none⟩) m cw)).heap[q]? = W.heap[q]? := fun q hq => Below.heap_setCell W ⟨Mb, 4, none⟩ _ q hq
 have hn : ∀ {v : Value} {n : Nat} {xs : List Value}, W.ownsRow W0.heap.size 3 1 v n xs → (W.setCell ⟨Mb, 4, none⟩ (.slice (some ⟨gw, 0, none⟩) m cw)).ownsRow W0.heap.size 3 1 v n xs := fun {v n xs} hr => ck_same hr (fun g hg => ho g (fun e => by
   subst e
   obtain ⟨-, cur, hc⟩ := z44 hr hg
   rw [h.blk] at hc
   cases hc))
 have hw := h.wr
 obtain ⟨ad, c, e⟩ := ck_slice hw
 cases e
 have ht := ck_take hw (by omega)
 rw [hm, Nat.add_sub_cancel] at ht
 have hr := h.room
 have hl : (w.take m).length = m := by rw [List.length_take]; omega
 refine ⟨by simp [World.setCell, Array.getElem?_modify, h.blk], hn h.er, hn h.sr, hn h.pr, ?_, h.ne, h.len, h.nl, h.sane, by omega, h.mb, ⟨h.bel.os, h.bel.tape, h.bel.output, by simpa [World.setCell] using h.bel.size, fun q hq => (ho q (by have := h.mb; omega)).trans (h.bel.block q hq)⟩⟩
 have e2 : rowN (w.take m) = (rowN w).take m := by unfold rowN; rw [List.map_take]
 rw [e2, hl]
 exact hn ht
theorem block_in' {W : World} {a : Addr} {v : Value} (h : W.cell? a = some v) : a.block < W.heap.size := by
 unfold World.cell? at h
 split at h
 · rename_i e
   obtain ⟨hlt, _⟩ := Array.getElem?_eq_some_iff.mp e
   exact hlt
 · cases h
theorem rowN_get {w : List Nat} {k : Nat} (hk : k < w.length) : (rowN w)[k]? = some (.int .i64 ((w.getD k 0 : Nat) : Int)) := by
 unfold rowN
 rw [List.getElem?_map, List.getElem?_eq_getElem hk, List.getD_eq_getElem?_getD, List.getElem?_eq_getElem hk]
 rfl
def RunT (w : World) (is : List In) (Mb : Nat) (w' : World) : Prop :=
 ∃ vc ve vs vp vw b, w'.heap[Mb]? = some (.cells #[vc, ve, vs, vp, vw, .bool b] 47) ∧ Below w.heap.size w w' ∧ validZ is = !b ∧
   (b = false → ∃ T, WholeV is T ∧ w'.ownsRow w.heap.size 3 1 ve is.length (rowI envV T) ∧ w'.ownsRow w.heap.size 3 1 vs is.length (rowI stkV T))
def RunE (w : World) (is : List In) (e : Ending) (w' : World) : Prop := ∃ Mb, e = .returned (.pointer (some ⟨Mb, 0, none⟩)) ∧ RunT w is Mb w'
theorem all_take {is : List In} {k : Nat} (hk : k < is.length) : (is.take (k + 1)).all In.ok = ((is.take k).all In.ok && (is.getD k default).ok) := by
 have e : is.take (k + 1) = is.take k ++ [is.getD k default] := by
   rw [List.take_add_one, List.getElem?_eq_getElem hk, List.getD_eq_getElem?_getD, List.getElem?_eq_getElem hk]
   rfl
 rw [e, List.all_append]
 simp
set_option maxHeartbeats 16000000 in
set_option maxRecDepth 100000 in
theorem l6Run_calls (bc oc cc : Nat) (is : List In) (w : World) (h0 : 0 < is.length) (hb : bc < w.heap.size) (hin : InsAt w bc oc is) (hm : is.length ≤ 1048576) :
   Calls Tryz.prog 13 #[.slice (some ⟨bc, oc, none⟩) is.length cc] w (RunE w is) := by
 obtain ⟨N, hN⟩ : ∃ N, is.length = N := ⟨_, rfl⟩
 have HN := hid hN
 have HIn := hid (And.intro hb (And.intro hin (And.intro h0 hm)))
 obtain ⟨b0, hb0⟩ : ∃ b0, decide (1500 < N) = b0 := ⟨_, rfl⟩
 have hb0z : decide ((1500 : Int) < (N : Int)) = b0 := by rw [← hb0]; congr 1; simp; omega
 have HB0 := hid hb0
 rw [hN]
 clear hN h0 hb hin hm
 have hA1 := (MapKept.heap_alloc w (.cells #[.slice (some ⟨bc, oc, none⟩) N cc, .slice none 0 0, .slice none 0 0, .slice none 0 0, .slice none 0 0, .bool b0] 47)).1
 have hL1 := (Below.refl w.heap.size w).alloc (Nat.le_refl _) (.cells #[.slice (some ⟨bc, oc, none⟩) N cc, .slice none 0 0, .slice none 0 0, .slice none 0 0, .slice none 0 0, .bool b0] 47)
 obtain ⟨Y, hY⟩ : ∃ Y, w.alloc (.cells #[.slice (some ⟨bc, oc, none⟩) N cc, .slice none 0 0, .slice none 0 0, .slice none 0 0, .slice none 0 0, .bool b0] 47) = Y := ⟨_, rfl⟩
 rw [hY] at hA1 hL1
 obtain ⟨Mb, hMb⟩ : ∃ Mb, w.heap.size = Mb := ⟨_, rfl⟩
 rw [hMb] at hA1
 have HBd : Hid (Bd w Mb (.slice (some ⟨bc, oc, none⟩) N cc) (.slice none 0 0) (.slice none 0 0) (.slice none 0 0) 0 0 0 b0 Y) := ⟨hA1, ⟨World.ownsRow_nil _ _ _ _, World.ownsRow_nil _ _ _ _, World.ownsRow_nil _ _ _ _, fun g e => (by cases e), fun g e => (by cases e), fun g e => (by cases e)⟩, by omega, hL1⟩
 have HY := hid hY
 have HMb := hid hMb
 clear hA1 hL1 hY
 go_enter Tryz.func13, Tryz.ntmps13
 go_upto_region 2 with fail
 rw [HY.out]
 clear hb0 hb0z hMb HY
 go_wp2_with fail
 obtain ⟨i0, hi, hz0, hz1, hz2⟩ := info_parts info_intC
 go_loopw [4] (fun i wr => ∃ (j : Nat) (a b c : Value) (bad : Bool), j ≤ N ∧ i = .int .i64 (j : Int) ∧ Hid (Bd w Mb (.slice (some ⟨bc, oc, none⟩) N cc) a b c j j j bad wr) ∧ Hid (bad = (b0 || !(is.take j).all In.ok))) (fun i _ => N - (intOf i).toNat)
 case atStart => exact ⟨0, _, _, _, b0, Nat.zero_le _, rfl, HBd, by show b0 = _; simp⟩
 case round =>
   clear HBd
   obtain ⟨j, a, b, c, bad, hj, rfl, HBr, HBad⟩ := hrel
   by_cases hlt : (j : Int) < (N : Int)
   · have hjn : j < is.length := by have := HN.out; omega
     have HJl : Hid (j < N ∧ N ≤ 1048576) := ⟨by omega, by have := HIn.out; have := HN.out; omega⟩
     have hstep : N - (intOf (.int .i64 ((j + 1 : Nat) : Int))).toNat < N - (intOf (.int .i64 (j : Int))).toNat := by simp only [intOf, Int.toNat_natCast]; omega
     have HSt := hid hstep
     have HAll := hid (all_take hjn)
     have hj0 : (0 : Int) ≤ (j : Int) := by omega
     have HJn := hid hjn
     clear hstep hjn hj
     have e1 := z11 HBr.out.blk 1
     simp at e1
     go_upto_region 6 with (first
       | (at_builtin; refine wpList_append_own_at _ rfl _ _ 25 rfl w.heap.size 3 i0 (.int .i64 0) 1 8 Tryz.underlying25 hi hz0 hz1 hz2 rfl (by decide) _ _ _ rfl (HBr.out.rows.ra.alloc _) ⟨_, 0, none⟩ 1 1 [.int .i64 (-1)] rfl rfl (cell_single _ _ rfl _ _) (fun u hu => by simp only [List.mem_singleton] at hu; subst hu; rfl) (by have := HJl.out; unfold maxLen; omega) (by have := HJl.out; omega) (by have := HBr.out.bel.size; simp; omega) ?_
          intro v' w3 hown3 hgrow3 hnil3 hat3
          obtain ⟨av', cv', rfl⟩ := ck_slice hown3
          have HB1 := hid (HBr.out.app1 ((Below.refl _ _).alloc (Nat.le_refl _) _) hown3 hgrow3 hat3)
          have hbk := grown_blk HBr.out.rows.ra ((Below.refl _ _).alloc (Nat.le_refl _) _) hgrow3 HBr.out.blk
          have f1 := z11 hbk 1
          have g1 := z13 hbk 1
          simp at f1
          clear hown3 hgrow3 hnil3 hat3 hbk))
     obtain ⟨X1, hX1⟩ : ∃ X, w3.setCell ⟨Mb, 1, none⟩ (.slice av' (j + 1) cv') = X := ⟨_, rfl⟩
     rw [hX1] at HB1 ⊢
     clear hX1 f1 g1 e1 HBr
     have e2 := z11 HB1.out.blk 2
     simp at e2
     go_upto_region 7 with (first
       | (at_builtin; refine wpList_append_own_at _ rfl _ _ 25 rfl w.heap.size 3 i0 (.int .i64 0) 1 8 Tryz.underlying25 hi hz0 hz1 hz2 rfl (by decide) _ _ _ rfl (HB1.out.rows.rb.alloc _) ⟨_, 0, none⟩ 1 1 [.int .i64 (-1)] rfl rfl (cell_single _ _ rfl _ _) (fun u hu => by simp only [List.mem_singleton] at hu; subst hu; rfl) (by have := HJl.out; unfold maxLen; omega) (by have := HJl.out; omega) (by have := HB1.out.bel.size; simp; omega) ?_
          intro v' w3 hown3 hgrow3 hnil3 hat3
          obtain ⟨av', cv', rfl⟩ := ck_slice hown3
          have HB2 := hid (HB1.out.app2 ((Below.refl _ _).alloc (Nat.le_refl _) _) hown3 hgrow3 hat3)
          have hbk := grown_blk HB1.out.rows.rb ((Below.refl _ _).alloc (Nat.le_refl _) _) hgrow3 HB1.out.blk
          have f2 := z11 hbk 2
          have g2 := z13 hbk 2
          simp at f2
          clear hown3 hgrow3 hnil3 hat3 hbk))
     obtain ⟨X2, hX2⟩ : ∃ X, w3.setCell ⟨Mb, 2, none⟩ (.slice av' (j + 1) cv') = X := ⟨_, rfl⟩
     rw [hX2] at HB2 ⊢
     clear hX2 f2 g2 e2 HB1
     have e3 := z11 HB2.out.blk 3
     simp at e3
     go_upto_region 8 with (first
       | (at_builtin; refine wpList_append_own_at _ rfl _ _ 25 rfl w.heap.size 3 i0 (.int .i64 0) 1 8 Tryz.underlying25 hi hz0 hz1 hz2 rfl (by decide) _ _ _ rfl (HB2.out.rows.rc.alloc _) ⟨_, 0, none⟩ 1 1 [.int .i64 0] rfl rfl (cell_single _ _ rfl _ _) (fun u hu => by simp only [List.mem_singleton] at hu; subst hu; rfl) (by have := HJl.out; unfold maxLen; omega) (by have := HJl.out; omega) (by have := HB2.out.bel.size; simp; omega) ?_
          intro v' w3 hown3 hgrow3 hnil3 hat3
          obtain ⟨av', cv', rfl⟩ := ck_slice hown3
          have HB3 := hid (HB2.out.app3 ((Below.refl _ _).alloc (Nat.le_refl _) _) hown3 hgrow3 hat3)
          have hbk := grown_blk HB2.out.rows.rc ((Below.refl _ _).alloc (Nat.le_refl _) _) hgrow3 HB2.out.blk
          have f3 := z11 hbk 3
          have g3 := z13 hbk 3
          simp at f3
          clear hown3 hgrow3 hnil3 hat3 hbk))
     obtain ⟨X3, hX3⟩ : ∃ X, w3.setCell ⟨Mb, 3, none⟩ (.slice av' (j + 1) cv') = X := ⟨_, rfl⟩
     rw [hX3] at HB3 ⊢
     clear hX3 f3 g3 e3 HB2
     have e5 := z11 HB3.out.blk 5
     have z5 := z13 HB3.out.blk 5
     simp at e5
     cases bad with
     | true =>
       have HBad' : Hid (true = (b0 || !(is.take (j + 1)).all In.ok)) := by
         show _ = _
         rw [HAll.out]
         have := HBad.out
         cases b0 with
         | true => rfl
         | false =>
           simp only [Bool.false_or] at this ⊢
           have h2 : (is.take j).all In.ok = false := by simpa using this.symm
           rw [h2]
           rfl
       go_wp2_with fail
       try rw [z69 HJl.out.1 HJl.out.2]
       exact ⟨⟨j + 1, _, _, _, true, by have := HJl.out; omega, rfl, HB3.out.flag true, HBad'⟩, HSt.out⟩
     | false =>
       have hinW := HIn.out.2.1.below HB3.out.bel HIn.out.1
       have c0 := hinW j HJn.out 0 (by omega)
       have c1 := hinW j HJn.out 1 (by omega)
       have c2 := hinW j HJn.out 2 (by omega)
       have c3 := hinW j HJn.out 3 (by omega)
       obtain ⟨⟨op, x, y, z⟩, hii⟩ : ∃ i, is.getD j default = i := ⟨_, rfl⟩
       rw [hii] at c0 c1 c2 c3
       simp only [In.cell, Nat.add_zero] at c0 c1 c2 c3
       have HII := hid hii
       clear hii hinW
       go_wp2_with fail
       refine (specInsOk_calls op x y z _).mono ?_
       rintro e X4 ⟨rfl, hb4⟩
       have HB4 := hid (HB3.out.below hb4)
       clear hb4 HB3 e5 z5 c0 c1 c2 c3
       have e5 := z11 HB4.out.blk 5
       have z5 := z13 HB4.out.blk 5
       simp at e5
       obtain ⟨ok, hok⟩ : ∃ ok, insOkZ op x y z = ok := ⟨_, rfl⟩
       rw [hok]
       have HBad' : Hid ((!ok) = (b0 || !(is.take (j + 1)).all In.ok)) := by
         show _ = _
         rw [HAll.out, HII.out]
         have := HBad.out
         cases b0 with
         | true => cases this
         | false =>
           simp only [Bool.false_or] at this ⊢
           have h2 : (is.take j).all In.ok = true := by simpa using this.symm
           rw [h2, Bool.true_and]
           show (!ok) = !(insOkZ op x y z)
           rw [hok]
       clear hok
       go_wp2_with fail
       try rw [z69 HJl.out.1 HJl.out.2]
       exact ⟨⟨j + 1, _, _, _, !ok, by have := HJl.out; omega, rfl, HB4.out.flag (!ok), HBad'⟩, HSt.out⟩
   · have ej : j = N := by omega
     subst ej
     clear hlt hj
     have HOk : Hid (bad = !codeOkZ is) := by
       show _ = _
       rw [HBad.out]
       unfold codeOkZ
       rw [← HN.out, List.take_length, ← HB0.out, ← HN.out]
       by_cases h15 : is.length ≤ 1500
       · rw [decide_eq_true h15, decide_eq_false (by omega)]
         rfl
       · rw [decide_eq_false h15, decide_eq_true (by omega)]
         rfl
     have e5 := z11 HBr.out.blk 5
     simp at e5
     cases bad with
     | true =>
       go_wp2_with fail
       go_ret
       exact ⟨Mb, rfl, _, _, _, _, _, _, HBr.out.blk, HBr.out.bel, valid_bad (Or.inl (by have := HOk.out; simpa using this.symm)), fun h => by cases h⟩
     | false =>
       have hcok : codeOkZ is = true := by have := HOk.out; simpa using this.symm
       have hN15 : j ≤ 1500 := by
         unfold codeOkZ at hcok
         rw [Bool.and_eq_true] at hcok
         have := of_decide_eq_true hcok.1
         have := HN.out
         omega
       obtain ⟨ge, gs, gp, ce, cs, cp, rfl, rfl, rfl, hck⟩ := HBr.out.start (by have := HIn.out; have := HN.out; omega) hN15
       have HS0 := hid (StC.of hck)
       have HCo := hid hcok
       clear hck hcok hN15 HBr HBad HOk
       go_wp2_with fail
       refine (z38 HS0.out 0 0 0 0 (by decide) (by decide)).mono ?_
       rintro e V1 ⟨rfl, hs1, -⟩
       have HAl : Hid (∀ i ∈ is, i.ok = true) := by
         have := HCo.out
         unfold codeOkZ at this
         rw [Bool.and_eq_true, List.all_eq_true] at this
         exact this.2
       have HG1 : Hid (StC w Mb (.slice (some ⟨bc, oc, none⟩) j cc) ge gs gp ce cs cp j (some ((List.replicate j (⟨0, 0, 0⟩ : Sq)).set 0 ⟨0, 0, 1⟩, [0])) V1) := by
         show StC _ _ _ _ _ _ _ _ _ _ _ _
         have h1 := first_some (cs := is) HIn.out.2.2.1
         rw [HN.out] at h1
         rw [Option.bind_some] at hs1
         dsimp only at hs1
         rw [show (0 : Int) + 1 = 1 from rfl, h1] at hs1
         exact hs1
       have HGo := hid (going_start (cs := is) HIn.out.2.2.1)
       clear hs1 HS0 e5
       go_wp2_with fail
       obtain ⟨vw1, T1, w1, bad1, hck1, -, hx1⟩ := HG1.out
       obtain ⟨rfl, e1, e2⟩ := hx1 _ rfl
       dsimp only at e1 e2
       subst e1 e2
       have HK1 := hid hck1
       have HNl : Hid (is.length = j) := HN.out
       rw [HN.out] at HGo
       clear hck1 hx1 HG1
       have HM : Hid (∀ T wk, Going is T wk → 2 * free T + wk.length ≤ 2 * j) := fun T wk hg => by
         have h1 := hg.tab.room
         have h2 := free_le T
         have h3 := hg.tab.len
         have h4 := HNl.out
         omega
       go_loopg [5] (2 * j) (fun g at_ wr => ∃ (vw : Value) (T : List Sq) (wk : List Nat) (bad : Bool), Hid (Ck w Mb (.slice (some ⟨bc, oc, none⟩) j cc) ge gs gp ce cs cp j T wk vw bad wr) ∧ Hid ((bad = true ∧ ¬ GoodV is) ∨ (bad = false ∧ Going is T wk ∧ 2 * free T + wk.length ≤ g)))
       case atStart => exact ⟨_, _, _, false, HK1, Or.inr ⟨rfl, HGo.out, HM.out _ _ HGo.out⟩⟩
       case round =>
         clear HK1 HGo HM
         obtain ⟨vw, T, wk, bad, HK, HR⟩ := hrel
         have e5 := z11 HK.out.blk 5
         have e4 := z11 HK.out.blk 4
         simp at e4 e5
         obtain ⟨aw, cw, rfl⟩ := ck_slice HK.out.wr
         have FIN : Hid ((bad = true ∨ wk = []) → RunE w is (.returned (.pointer (some ⟨Mb, 0, none⟩))) wr) := fun hor => by
           rcases HR.out with ⟨hb, hng⟩ | ⟨hb, hgo, -⟩
           · subst hb
             exact ⟨Mb, rfl, _, _, _, _, _, _, HK.out.blk, HK.out.bel, valid_bad (Or.inr hng), fun h => by cases h⟩
           · subst hb
             rcases hor with h | h
             · cases h
             · subst h
               have hwh := going_end HAl.out hgo
               refine ⟨Mb, rfl, _, _, _, _, _, _, HK.out.blk, HK.out.bel, valid_good HCo.out hwh.good, fun _ => ⟨T, hwh, ?_, ?_⟩⟩
               · rw [HNl.out]
                 exact HK.out.er
               · rw [HNl.out]
                 exact HK.out.sr
         by_cases hwk : wk = []
         · have hl0 : wk.length = 0 := by rw [hwk]; rfl
           rw [hl0] at e4
           have HW0 := hid hwk
           clear hwk hl0
           go_wp2_with fail
           go_ret
           exact FIN.out (Or.inr HW0.out)
         obtain ⟨m, hm⟩ : ∃ m, wk.length = m + 1 := ⟨wk.length - 1, by have : wk.length ≠ 0 := fun h => hwk (List.eq_nil_of_length_eq_zero h); omega⟩
         obtain ⟨lw, hlw⟩ : ∃ lw, wk.length = lw := ⟨_, rfl⟩
         rw [hlw] at e4
         have hl1 : (0 : Int) < (lw : Int) := by omega
         cases bad with
         | true =>
           clear hwk hm hlw
           go_wp2_with fail
           go_ret
           exact FIN.out (Or.inl (by trivial))
         | false =>
           obtain ⟨hgo, hg2⟩ : Going is T wk ∧ 2 * free T + wk.length ≤ gk := by
             rcases HR.out with ⟨hb, -⟩ | ⟨-, h1, h2⟩
             · cases hb
             · exact ⟨h1, h2⟩
           obtain ⟨gw, rfl⟩ : ∃ gw, aw = some ⟨gw, 0, none⟩ := by
             obtain ⟨-, ⟨-, e⟩ | ⟨g, cap, cur, e, -⟩⟩ := HK.out.wr
             · omega
             · cases e
               exact ⟨g, rfl⟩
           have hcw : wk.length ≤ cw := by
             obtain ⟨-, ⟨-, e⟩ | ⟨g, cap, cur, e, -, -, hc, -⟩⟩ := HK.out.wr
             · omega
             · cases e
               exact hc
           obtain ⟨k, hk⟩ : ∃ k, wk.getD m 0 = k := ⟨_, rfl⟩
           have c4 : wr.cell? ⟨gw, m, none⟩ = some (.int .i64 (k : Int)) := by
             rw [World.ownsRow.cellAt HK.out.wr m (by omega), rowN_get (by omega), hk]
           have hkm : k ∈ wk := by
             rw [← hk, List.getD_eq_getElem?_getD, List.getElem?_eq_getElem (show m < wk.length by omega)]
             exact List.getElem_mem _
           have hw : wrap64 ((lw : Int) - 1) = (m : Int) := by rw [wrap64]; have := HK.out.room; have := HK.out.nl; omega
           have m0 : (0 : Int) ≤ (m : Int) := by omega
           have m1 : (m : Int) < (lw : Int) := by omega
           have m2 : (m : Int) ≤ (cw : Int) := by omega
           have HKp : Hid (∀ X, Below wr.heap.size wr X → Ck w Mb (.slice (some ⟨bc, oc, none⟩) j cc) ge gs gp ce cs cp j T (wk.take m) (.slice (some ⟨gw, 0, none⟩) m cw) false (X.setCell ⟨Mb, 4, none⟩ (.slice (some ⟨gw, 0, none⟩) m cw))) := fun X hX => (HK.out.below hX).pop hm
           have HGs := hid (going_step HAl.out hgo hkm (w := wk.take m) (fun q hq => by
             have e : wk = wk.take m ++ [k] := by
               rw [← hk]
               have h1 := List.take_add_one (l := wk) (i := m)
               rw [show wk.take (m + 1) = wk from List.take_of_length_le (by omega), List.getElem?_eq_getElem (show m < wk.length by omega)] at h1
               rw [List.getD_eq_getElem?_getD, List.getElem?_eq_getElem (show m < wk.length by omega)]
               exact h1
             rw [e, List.mem_append, List.mem_singleton] at hq
             rcases hq with hq | hq
             · exact Or.inr hq
             · exact Or.inl hq) (fun q hq => List.mem_of_mem_take hq) (by rw [List.length_take]; omega))
           have HAt := hid (going_at HAl.out hgo hkm)
           have HG2 := hid (And.intro hg2 (show 1 ≤ wk.length by omega))
           have HK4 := hid (HK.out.blk)
           clear hgo hg2 hk hkm hcw hm hlw hwk FIN HR HK
           have hbl := z26 HK4.out
           have p4 : ∀ y : Later wr.heap.size wr, y.w.cell? ⟨Mb, 4, none⟩ = _ := fun y => y.cell hbl e4
           have pc : ∀ y : Later wr.heap.size wr, y.w.cell? ⟨gw, m, none⟩ = _ := fun y => y.cell (block_in' c4) c4
           go_wp2_with fail
           refine z30 wr.heap.size (by kernel_rfl) (by kernel_rfl) ?_
           repeat (go_big_quiet_step (fail))
           refine wpQuiet_nil ?_
           rintro w5 ⟨y, rfl⟩
           have HY := hid y.h
           have e4' := p4 y
           have z4 := z13 ((y.h.block Mb hbl).trans HK4.out) 4
           generalize y.w = X at *
           clear p4 pc e4 e5 c4
           go_wp2_with fail
           go_region
           have HKn := hid ((HKp.out X HY.out).below (Below.refl _ _).drew)
           obtain ⟨Z, hZ⟩ : ∃ Z, (X.setCell ⟨Mb, 4, none⟩ (.slice (some ⟨gw, 0, none⟩) m cw)).drew = Z := ⟨_, rfl⟩
           rw [hZ] at HKn ⊢
           clear hZ HKp e4' z4 hw m0 m1 m2 hl1 HY
           have HSt : Hid (Calls Tryz.prog 23 #[.pointer (some ⟨Mb, 0, none⟩), .int .i64 (k : Int)] Z fun e W' => e = .returned (.tuple #[]) ∧ StC w Mb (.slice (some ⟨bc, oc, none⟩) j cc) ge gs gp ce cs cp j (stepZ is T (wk.take m) k) W') := by
             show Calls _ _ _ _ _
             have h1 := HKn.out
             rw [← HNl.out] at h1 ⊢
             exact step_calls h1 HIn.out.1 HIn.out.2.1 HAl.out k HAt.out.1 HAt.out.2.2.2.2.2.2.1
           go_wp2_with fail
           refine HSt.out.mono ?_
           rintro e V2 ⟨rfl, vw2, T2, w2, bad2, hck2, r1, r2⟩
           have HR2 : Hid ((bad2 = true ∧ ¬ GoodV is) ∨ (bad2 = false ∧ Going is T2 w2 ∧ 2 * free T2 + w2.length < 2 * free T + wk.length)) := by
             show _ ∨ _
             have hgs := HGs.out
             unfold stepZ at r1 r2
             by_cases hn : needsZ is (is.getD k default) (tg T k) = true
             · rw [if_pos hn, rz_comes] at r1 r2
               cases hc : comesZ is.length T (wk.take m) (exitsZ is k (is.getD k default) (tg T k)) with
               | none => exact Or.inl ⟨r1 hc, hgs.2.1 hn hc⟩
               | some x =>
                 obtain ⟨g1, g2, g3⟩ := r2 x hc
                 have := hgs.2.2 x.1 x.2 hn hc
                 subst g2 g3
                 exact Or.inr ⟨g1, this.1, this.2⟩
             · rw [if_neg hn] at r1
               exact Or.inl ⟨r1 rfl, hgs.1 (by simpa using hn)⟩
           have HK2 := hid hck2
           clear hck2 r1 r2 HSt HKn
           go_wp2_with fail
           go_roundg (gk - 1)
           case measure =>
             have := HG2.out
             omega
           case rel =>
             refine ⟨_, T2, w2, bad2, HK2, ?_⟩
             rcases HR2.out with h | ⟨h1, h2, h3⟩
             · exact Or.inl h
             · exact Or.inr ⟨h1, h2, by have := HG2.out; omega⟩
end
section
open Go.RowKit Go.Deep
set_option maxHeartbeats 4000000 in
set_option maxRecDepth 100000 in
theorem l6Run_none (ad : Option Addr) (cap : Nat) (w : World) : Calls Tryz.prog 13 #[.slice ad 0 cap] w (RunE w []) := by
 have hA1 := (MapKept.heap_alloc w (.cells #[.slice ad 0 cap, .slice none 0 0, .slice none 0 0, .slice none 0 0, .slice none 0 0, .bool false] 47)).1
 have hL1 := (Below.refl w.heap.size w).alloc (Nat.le_refl _) (.cells #[.slice ad 0 cap, .slice none 0 0, .slice none 0 0, .slice none 0 0, .slice none 0 0, .bool false] 47)
 obtain ⟨Y, hY⟩ : ∃ Y, w.alloc (.cells #[.slice ad 0 cap, .slice none 0 0, .slice none 0 0, .slice none 0 0, .slice none 0 0, .bool false] 47) = Y := ⟨_, rfl⟩
 rw [hY] at hA1 hL1
 have HY := hid hY
 have HA := hid hA1
 have HL := hid hL1
 have e5 := z11 hA1 5
 simp at e5
 have hblk2 : (Y.setCell ⟨w.heap.size, 5, none⟩ (.bool true)).heap[w.heap.size]? = some (.cells #[.slice ad 0 cap, .slice none 0 0, .slice none 0 0, .slice none 0 0, .slice none 0 0, .bool true] 47) := by
   simp [World.setCell, Array.getElem?_modify, hA1]
 have hbel2 : Below w.heap.size w (Y.setCell ⟨w.heap.size, 5, none⟩ (.bool true)) := ⟨hL1.os, hL1.tape, hL1.output, by simpa [World.setCell] using hL1.size, fun q hq => (Below.heap_setCell Y ⟨w.heap.size, 5, none⟩ _ q (by dsimp only; omega)).trans (hL1.block q hq)⟩
 have HB2 := hid (And.intro hblk2 hbel2)
 clear hA1 hL1 hY hblk2 hbel2
 go_enter Tryz.func13, Tryz.ntmps13
 go_upto_region 2 with fail
 rw [HY.out]
 clear HY
 go_wp2_with fail
 refine wp_loop_rounds 1 ?_
 rw [rounds_succ]
 go_wp2_with fail
 refine (comeOut_calls (N := 0) HA.out 0 0 0 0 (Or.inr (Or.inl (by decide)))).mono ?_
 rintro e V ⟨rfl, hV⟩
 have HV := hid hV
 rw [hV] at HB2
 clear hV e5
 have e4 := z11 HB2.out.1 4
 simp at e4
 go_wp2_with fail
 refine wp_loop_rounds 1 ?_
 rw [rounds_succ]
 go_wp2_with fail
 go_ret
 exact ⟨w.heap.size, rfl, _, _, _, _, _, _, HB2.out.1, HB2.out.2, valid_bad (Or.inr (none_bad (by simp))), fun h => by cases h⟩
theorem l6Run_any {v : Value} {is : List In} (w : World) (h : InsSlice w v is) (hm : is.length ≤ 1048576) : Calls Tryz.prog 13 #[v] w (RunE w is) := by
 obtain ⟨ad, cap, rfl, h⟩ := h
 by_cases h0 : is = []
 · subst h0
   exact l6Run_none ad cap w
 · obtain ⟨g, o, rfl, hb, hr⟩ := h.resolve_left h0
   exact l6Run_calls g o cap is w (List.length_pos_iff.2 h0) hb hr hm
def DepthP (w : World) (is : List In) (e : Ending) (w' : World) : Prop :=
 Below w.heap.size w w' ∧ ((validZ is = false ∧ e = .returned (.tuple #[.slice none 0 0, .slice none 0 0, .bool false])) ∨
   (validZ is = true ∧ ∃ T ve vs, WholeV is T ∧ e = .returned (.tuple #[ve, vs, .bool true]) ∧ w'.ownsRow w.heap.size 3 1 ve is.length (rowI envV T) ∧ w'.ownsRow w.heap.size 3 1 vs is.length (rowI stkV T)))
set_option maxHeartbeats 4000000 in
set_option maxRecDepth 100000 in
theorem specDepths_any {v : Value} {is : List In} (w : World) (h : InsSlice w v is) (hm : is.length ≤ 1048576) :
   Calls Tryz.prog 6 #[v] w (DepthP w is) := by
 have HR := hid (l6Run_any w h hm)
 obtain ⟨ad, cap, rfl, -⟩ := h
 go_enter Tryz.func6, Tryz.ntmps6
 go_wp2_with fail
 refine HR.out.mono ?_
 rintro e W1 ⟨Mb, rfl, vc, ve, vs, vp, vw, b, hblk, hbel, hv, ht⟩
 have e5 := z11 hblk 5
 have e1 := z11 hblk 1
 have e2 := z11 hblk 2
 simp at e1 e2 e5
 have HV := hid hv
 have HT := hid ht
 have HBe := hid hbel
 clear hblk hv ht hbel
 cases b with
 | true =>
   go_wp2_with fail
   go_ret3
   exact ⟨HBe.out, Or.inl ⟨HV.out, rfl⟩⟩
 | false =>
   obtain ⟨T, hw, r1, r2⟩ := HT.out rfl
   obtain ⟨a1, c1, rfl⟩ := ck_slice r1
   obtain ⟨a2, c2, rfl⟩ := ck_slice r2
   have HX := hid (And.intro hw (And.intro r1 r2))
   clear hw r1 r2
   have hbl : Mb < W1.heap.size := block_in' e1
   have p1 : ∀ y : Later W1.heap.size W1, y.w.cell? ⟨Mb, 1, none⟩ = _ := fun y => y.cell hbl e1
   have p2 : ∀ y : Later W1.heap.size W1, y.w.cell? ⟨Mb, 2, none⟩ = _ := fun y => y.cell hbl e2
   go_wp2_with fail
   refine z30 W1.heap.size (by kernel_rfl) (by kernel_rfl) ?_
   repeat (go_big_quiet_step (fail))
   refine wpQuiet_nil ?_
   rintro w5 ⟨y, rfl⟩
   have HY := hid y.h
   generalize y.w = X at *
   clear p1 p2 e1 e2 e5
   go_wp2_with fail
   go_ret3
   exact ⟨HBe.out.trans (HY.out.mono HBe.out.size), Or.inr ⟨HV.out, T, _, _, HX.out.1, rfl, z58 HX.out.2.1 HY.out, z58 HX.out.2.2 HY.out⟩⟩
end
section
open Go.RowKit

open Classical in
noncomputable def depT (is : List In) : List Sq := if h : validZ is = true ∧ ∃ T, WholeV is T then h.2.choose else []
theorem depT_eq {is : List In} {T : List Sq} (hv : validZ is = true) (h : WholeV is T) : depT is = T := by
 have hx : validZ is = true ∧ ∃ T, WholeV is T := ⟨hv, T, h⟩
 unfold depT
 rw [dif_pos hx]
 exact whole_one hx.2.choose_spec h
theorem depT_bad {is : List In} (hv : validZ is = false) : depT is = [] := by
 unfold depT
 rw [dif_neg (by rw [hv]; simp)]

noncomputable def envL (is : List In) : List Int := (depT is).map envV
noncomputable def stkL (is : List In) : List Int := (depT is).map stkV
def BothP (is : List In) (w : World) (e : Ending) (w' : World) : Prop :=
 ∃ va vb, e = .returned (.tuple #[va, vb, .bool (validZ is)]) ∧ SliceR 3 1 w.heap.size w' va (depT is).length (intCells (envL is)) ∧ SliceR 3 1 w.heap.size w' vb (depT is).length (intCells (stkL is)) ∧ Below w.heap.size w w'
theorem rowI_map (f : Sq → Int) (T : List Sq) : rowI f T = (T.map f).map (fun b => .int .i64 b) := by
 unfold rowI
 rw [List.map_map]
 rfl
theorem specBoth {v : Value} {is : List In} (w : World) (h : InsSlice w v is) (hm : is.length ≤ 1048576) : Calls Tryz.prog 6 #[v] w (BothP is w) := by
 refine (specDepths_any w h hm).mono ?_
 rintro e w' ⟨hb, ⟨hv, rfl⟩ | ⟨hv, T, ve, vs, hw, rfl, r1, r2⟩⟩
 · refine ⟨_, _, by rw [hv], ?_, ?_, hb⟩
   · rw [depT_bad hv]
     exact ⟨none, 0, rfl, Or.inl rfl⟩
   · rw [depT_bad hv]
     exact ⟨none, 0, rfl, Or.inl rfl⟩
 · have hl := hw.len
   have he := depT_eq hv hw
   rw [rowI_map] at r1 r2
   refine ⟨_, _, by rw [hv], ?_, ?_, hb⟩
   · have := intSliceR_of_owns (bs := T.map envV) (by rw [List.length_map, hl]; exact r1)
     unfold envL
     rw [he]
     rw [List.length_map] at this
     exact this
   · have := intSliceR_of_owns (bs := T.map stkV) (by rw [List.length_map, hl]; exact r2)
     unfold stkL
     rw [he]
     rw [List.length_map] at this
     exact this
theorem cellRow_dep {w : World} {g n : Nat} {T : List Sq} {f : Sq → Int} (hl : T.length = n) (h : w.rowIs g 3 n (depF f T n)) : CellRow 3 w g (n * 1) (intCells (T.map f)) := by
 rw [Nat.mul_one]
 refine ⟨n, _, rw_of_row h n, Nat.le_refl _, fun i hi => ?_⟩
 unfold depF intCells tg
 rw [if_pos hi]
 have h2 : i < T.length := by omega
 simp [List.getD_eq_getElem?_getD, List.getElem?_map, List.getElem?_eq_getElem h2]
def BothI (is : List In) (w : World) (e : Ending) (w' : World) : Prop :=
 ∃ va vb, e = .returned (.tuple #[va, vb, .bool (validZ is)]) ∧ SliceR 3 1 w.heap.size w' va (depT is).length (intCells (envL is)) ∧ SliceR 3 1 w.heap.size w' vb (depT is).length (intCells (stkL is)) ∧ ((depT is).length ≠ 0 → va.ownBlock ≠ vb.ownBlock) ∧ Below w.heap.size w w'

end
section
theorem dep_right {is : List In} {T : List Sq} (hw : WholeV is T) (k : Nat) :
   envV (tg T k) < 0 ∨ (((is.getD k default).op = 5 → (is.getD k default).a < envV (tg T k)) ∧ ((is.getD k default).op = 0 ∨ (is.getD k default).op = 9 ∨ (is.getD k default).op = 23 → stkV (tg T k) = 1) ∧ (is.getD k default).op ≠ 24 ∧ (is.getD k default).op ≠ 25) := by
 by_cases hp : (tg T k).p = 0
 · left
   unfold envV
   rw [if_pos hp]
   decide
 · right
   have hn := (hw.good k _ ((hw.rch k _ hp).1 rfl)).2.2.2.1
   unfold envV stkV
   rw [if_neg hp, if_neg hp]
   generalize is.getD k default = i at hn ⊢
   generalize tg T k = s at hn ⊢
   unfold needsZ at hn
   refine ⟨fun h5 => ?_, fun h => ?_, fun h => ?_, fun h => ?_⟩
   · rw [if_pos h5] at hn
     exact of_decide_eq_true hn
   · rcases h with h | h | h <;> simp [h] at hn <;> exact hn.1
   · simp [h] at hn
   · simp [h] at hn
theorem dep_first {is : List In} {T : List Sq} (hw : WholeV is T) : 0 < is.length ∧ envV (tg T 0) = 0 ∧ stkV (tg T 0) = 0 := by
 have h1 := (hw.good 0 _ Reach.start).1
 have h2 := (hw.rch 0 ⟨0, 0, 1⟩ (by decide)).2 Reach.start
 rw [h2]
 exact ⟨h1, rfl, rfl⟩
end
section
open Go.RowKit
set_option maxRecDepth 100000 in
theorem hrInts_none (ad ad' : Option Addr) (cap cap' : Nat) (w : World) :
   Calls Tryz.prog 7 #[.slice ad 0 cap, .slice ad' 0 cap'] w fun e w' => e = .returned (.bool true) ∧ Below w.heap.size w w' := by
 go_enter Tryz.func7, Tryz.ntmps7
 go_wp2
 refine wp_loop_rounds 1 ?_
 rw [rounds_succ]
 go_wp2
 go_ret
 exact ⟨rfl, Below.refl _ _⟩
set_option maxHeartbeats 1000000 in
set_option maxRecDepth 100000 in
theorem hrInts_rows (b off b' off' len cap cap' : Nat) (bs : List Int) (w : World) (hn : ∀ k, k < len → w.cell? ⟨b, off + k, none⟩ = some (.int .i64 (bs.getD k 0))) (hn' : ∀ k, k < len → w.cell? ⟨b', off' + k, none⟩ = some (.int .i64 (bs.getD k 0))) (hm : len ≤ 1048576) :
   Calls Tryz.prog 7 #[.slice (some ⟨b, off, none⟩) len cap, .slice (some ⟨b', off', none⟩) len cap'] w fun e w' => e = .returned (.bool true) ∧ Below w.heap.size w w' := by
 have HM : Hid (len ≤ 1048576) := hm
 have HN : Hid ((∀ k, k < len → w.cell? ⟨b, off + k, none⟩ = some (.int .i64 (bs.getD k 0))) ∧ ∀ k, k < len → w.cell? ⟨b', off' + k, none⟩ = some (.int .i64 (bs.getD k 0))) := ⟨hn, hn'⟩
 clear hm hn hn'
 go_enter Tryz.func7, Tryz.ntmps7
 go_wp2_with fail
 go_loopw [5] (fun i wr => ∃ k : Nat, k ≤ len ∧ i = .int .i64 k ∧ Below w.heap.size w wr ∧ ∀ a, wr.cell? a = w.cell? a) (fun i _ => len - (intOf i).toNat)
 case atStart => exact ⟨0, Nat.zero_le _, rfl, Below.refl _ _, fun _ => rfl⟩
 case round =>
   obtain ⟨k, hk, rfl, hnx, hce⟩ := hrel
   by_cases hkl : (k : Int) < (len : Int)
   · have c0 := (hce _).trans (HN.out.1 k (by omega))
     have d0 := (hce _).trans (HN.out.2 k (by omega))
     generalize bs.getD k 0 = n at c0 d0
     have hi0 : (0 : Int) ≤ (k : Int) := by omega
     have Hce : Hid (∀ a, wr.cell? a = w.cell? a) := hce
     clear hce
     go_wp2_with fail
     go_region
     all_goals
       go_wp2_with fail
       have hs : len - (intOf (.int .i64 ((k + 1 : Nat) : Int))).toNat < len - (intOf (.int .i64 (k : Int))).toNat := by simp only [intOf, Int.toNat_natCast]; omega
       try rw [z69 (n := len) (by omega) HM.out]
       exact ⟨⟨k + 1, by omega, rfl, hnx.drew, Hce.out⟩, hs⟩
   · go_wp2_with fail
     go_ret
     exact ⟨rfl, hnx⟩
theorem hrInts_any {v v' : Value} {bs : List Int} (w : World) (hm : bs.length ≤ 1048576) (h : IntSlice w v bs) (h' : IntSlice w v' bs) :
   Calls Tryz.prog 7 #[v, v'] w fun e w' => e = .returned (.bool true) ∧ Below w.heap.size w w' := by
 obtain ⟨ad, cap, rfl, h⟩ := h
 obtain ⟨ad', cap', rfl, h'⟩ := h'
 by_cases h0 : bs = []
 · subst h0
   exact hrInts_none ad ad' cap cap' w
 · obtain ⟨g, o, rfl, -, hr⟩ := h.resolve_left h0
   obtain ⟨g', o', rfl, -, hr'⟩ := h'.resolve_left h0
   exact hrInts_rows g o g' o' _ cap cap' bs w hr hr' hm
end
section
open Go.RowKit
def BytesAt (w : World) (a0 : Option Addr) (len : Nat) : Prop :=
 0 < len → ∃ b off, a0 = some ⟨b, off, none⟩ ∧ b < w.heap.size ∧ ∀ i, i < len → ∃ z, w.cell? ⟨b, off + i, none⟩ = some (.int .u8 z) ∧ 0 ≤ z ∧ z ≤ 255
set_option maxRecDepth 100000 in
theorem ropen_calls (a0 : Option Addr) (len cap : Nat) (w : World) (hlen : len ≤ 1000000000) (hb : len ≤ cap) :
   Calls Tryz.prog 9 #[.slice a0 len cap] w fun e w' => e = .returned (.pointer (some ⟨w.heap.size, 0, none⟩)) ∧
     ∃ n : Nat, n ≤ len ∧ w' = w.alloc (.cells #[.slice a0 n cap, .int .i64 0] 49) := by
 by_cases h : (2000 : Int) < (len : Int)
 · go_enter Tryz.func9, Tryz.ntmps9
   go_wp2
   go_ret
   exact ⟨rfl, 2000, by omega, rfl⟩
 · go_enter Tryz.func9, Tryz.ntmps9
   go_wp2
   go_ret
   exact ⟨rfl, len, Nat.le_refl _, rfl⟩

end
section
open Go.RowKit Go.Deep
theorem insS_own {W : World} {B : Nat} {v : Value} {cs : List In} (h : W.ownsRow B 31 4 v cs.length (rowZ In.cell 4 cs)) : InsSlice W v cs := by
 have h' := h
 obtain ⟨-, ⟨rfl, h0⟩ | ⟨g, cap, cur, rfl, hB, hc, hr⟩⟩ := h
 · exact ⟨none, 0, by rw [h0], Or.inl (List.eq_nil_of_length_eq_zero h0)⟩
 · exact ⟨_, cap, rfl, Or.inr ⟨g, 0, rfl, z26 hc, ins_at h'⟩⟩
theorem insS_cap {W : World} {B : Nat} {v : Value} {cs : List In} (h : W.ownsRow B 31 4 v cs.length (rowZ In.cell 4 cs)) : ∃ av cv, v = .slice av cs.length cv ∧ InsSlice W (.slice av cs.length cv) cs ∧ cs.length ≤ cv := by
 have h1 := insS_own h
 obtain ⟨-, ⟨rfl, h0⟩ | ⟨g, cap, cur, rfl, hB, hc, hle, hr⟩⟩ := h
 · rw [h0]
   exact ⟨none, 0, rfl, h1, Nat.le_refl _⟩
 · exact ⟨_, _, rfl, h1, hle⟩
def DrawnD (W : World) (e : Ending) (W' : World) : Prop := ∃ av cv cs, e = .returned (.slice av (List.length cs) cv) ∧ InsSlice W' (.slice av (List.length cs) cv) cs ∧ cs.length ≤ cv ∧ cs.length ≤ 960000 ∧ Below W.heap.size W W'
set_option maxHeartbeats 4000000 in
set_option maxRecDepth 100000 in
theorem drawDepths_calls (a0 : Option Addr) (len cap : Nat) (W : World) (hl : len ≤ 1048576) (hc : len ≤ cap) (hB : BytesAt W a0 len) : Calls Tryz.prog 4 #[.slice a0 len cap] W (DrawnD W) := by
 have HO := hid (ropen_calls a0 len cap W (by omega) hc)
 have HB := hid hB
 clear hB
 go_enter Tryz.func4, Tryz.ntmps4
 go_wp2_with fail
 refine HO.out.mono ?_
 rintro e W1 ⟨rfl, m, hm, rfl⟩
 have HR : Hid (Rdr ⟨W.heap.size, W.heap.size, a0, m, cap⟩ (W.alloc (.cells #[.slice a0 m cap, .int .i64 0] 49)) 0) := by
   have hh := (MapKept.heap_alloc W (.cells #[.slice a0 m cap, .int .i64 0] 49)).1
   refine ⟨hh, fun h0 => ?_⟩
   obtain ⟨b, off, ea, hb, hz⟩ := HB.out (show 0 < len by have : 0 < m := h0; omega)
   refine ⟨b, off, ea, ⟨by simp; omega, by show b ≠ W.heap.size; omega, by show b ≠ W.heap.size; omega⟩, fun i hi => ?_⟩
   obtain ⟨z, hz, h1⟩ := hz i (by have : i < m := hi; omega)
   exact ⟨z, (((Below.refl W.heap.size W).alloc (Nat.le_refl _) _).cell (p := ⟨b, off + i, none⟩) hb).trans hz, h1⟩
 have HA := hid (code_calls (d := ⟨W.heap.size, W.heap.size, a0, m, cap⟩) rfl HR.out (by omega))
 have HW : Hid (Below W.heap.size W (W.alloc (.cells #[.slice a0 m cap, .int .i64 0] 49))) := (Below.refl _ _).alloc (Nat.le_refl _) _
 clear HO hm
 go_wp2_with fail
 refine HA.out.mono ?_
 rintro e W2 ⟨v, cs, q, rfl, hown, hlen, -, -, hg⟩
 obtain ⟨av, cv, rfl, hin, hle⟩ := insS_cap hown
 have HN := hid (And.intro hin hle)
 have HL := hid hlen
 have HG := hid (HW.out.trans (hg.below (n := W.heap.size) (by simp) (Nat.le_refl _) (Nat.le_refl _)))
 clear hown hlen hg HA hin hle
 go_wp2_with fail
 go_ret
 exact ⟨_, _, cs, rfl, HN.out.1, HN.out.2, HL.out, HG.out⟩
theorem implW {ac : Option Addr} {cc : Nat} {is : List In} (w : World) (hL : LaidE w) (h : InsSlice w (.slice ac is.length cc) is) (hcc : is.length ≤ cc) : Calls Tryz.prog 5 #[.slice ac is.length cc] w fun e w' => BothI is w e w' ∧ (validZ is = true → WholeV is (depT is)) := by
 refine (implDepths_any w hL h hcc).mono ?_
 rintro e w' ⟨hb, ⟨hv, rfl⟩ | ⟨hv, T, gN, gV, hw, rfl, l1, l2, hne, r1, r2⟩⟩
 · refine ⟨⟨_, _, by rw [hv], ?_, ?_, fun h => (by rw [depT_bad hv] at h; simp at h), hb⟩, fun h => by rw [hv] at h; cases h⟩
   · rw [depT_bad hv]
     exact ⟨none, 0, rfl, Or.inl rfl⟩
   · rw [depT_bad hv]
     exact ⟨none, 0, rfl, Or.inl rfl⟩
 · have hl := hw.len
   have he := depT_eq hv hw
   refine ⟨⟨_, _, by rw [hv], ?_, ?_, fun _ => by simp [Value.ownBlock]; exact hne, hb⟩, fun _ => by rw [he]; exact hw⟩
   · unfold envL
     rw [he, hl]
     exact ⟨_, _, rfl, Or.inr ⟨gN, rfl, l1, cellRow_dep hl r1⟩⟩
   · unfold stkL
     rw [he, hl]
     exact ⟨_, _, rfl, Or.inr ⟨gV, rfl, l2, cellRow_dep hl r2⟩⟩

structure Told (cs : List In) (A B : List Int) : Prop where
 la : A.length = cs.length
 lb : B.length = cs.length
 pos : 0 < cs.length
 at_ : ∀ k, k < cs.length → A.getD k 0 < 0 ∨ (((cs.getD k default).op = 5 → (cs.getD k default).a < A.getD k 0) ∧ ((cs.getD k default).op = 0 ∨ (cs.getD k default).op = 9 ∨ (cs.getD k default).op = 23 → B.getD k 0 = 1) ∧ (cs.getD k default).op ≠ 24 ∧ (cs.getD k default).op ≠ 25)
 a0 : A.getD 0 0 = 0
 b0 : B.getD 0 0 = 0
theorem map_tg (f : Sq → Int) {T : List Sq} {k : Nat} (h : k < T.length) : (T.map f).getD k 0 = f (tg T k) := by
 unfold tg
 simp [List.getD_eq_getElem?_getD, List.getElem?_map, List.getElem?_eq_getElem h]
theorem told_of {cs : List In} (h : WholeV cs (depT cs)) : Told cs (envL cs) (stkL cs) := by
 have hl := h.len
 obtain ⟨h0, h1, h2⟩ := dep_first h
 unfold envL stkL
 refine ⟨by rw [List.length_map, hl], by rw [List.length_map, hl], h0, fun k hk => ?_, ?_, ?_⟩
 · rw [map_tg envV (by omega), map_tg stkV (by omega)]
   exact dep_right h k
 · rw [map_tg envV (by omega), h1]
 · rw [map_tg stkV (by omega), h2]
theorem int_cells {W : World} {a : Option Addr} {n cap : Nat} {bs : List Int} (h : IntSlice W (.slice a n cap) bs) (h0 : 0 < bs.length) : ∃ b off, a = some ⟨b, off, none⟩ ∧ b < W.heap.size ∧ ∀ k, k < bs.length → W.cell? ⟨b, off + k, none⟩ = some (.int .i64 (bs.getD k 0)) := by
 obtain ⟨a', c', e, h⟩ := h
 simp only [Value.slice.injEq] at e
 obtain ⟨rfl, -, -⟩ := e
 rcases h with h | h
 · rw [h] at h0
   simp at h0
 · exact h
theorem ins_cells {W : World} {a : Option Addr} {n cap : Nat} {cs : List In} (h : InsSlice W (.slice a n cap) cs) (h0 : 0 < cs.length) : ∃ b off, a = some ⟨b, off, none⟩ ∧ b < W.heap.size ∧ InsAt W b off cs := by
 obtain ⟨a', c', e, h⟩ := h
 simp only [Value.slice.injEq] at e
 obtain ⟨rfl, -, -⟩ := e
 rcases h with h | h
 · rw [h] at h0
   simp at h0
 · exact h
set_option maxHeartbeats 16000000 in
set_option maxRecDepth 100000 in
theorem depths_walk (a0 : Option Addr) (len cap : Nat) (W : World) (hcap : len ≤ cap) (hB : BytesAt W a0 len) (hL : LaidE W) :
   Calls Tryz.prog 3 #[.slice a0 len cap] W fun e W' => e = .returned (.bool true) ∧ Below W.heap.size W W' := by
 by_cases hl : (1048576 : Int) < (len : Int)
 · go_enter Tryz.func3, Tryz.ntmps3
   go_wp2_with fail
   go_ret
   exact ⟨rfl, Below.refl _ _⟩
 have HD := hid (drawDepths_calls a0 len cap W (by omega) hcap hB)
 have HLa := hid hL
 have hl' : (len : Int) ≤ 1048576 := by omega
 clear hB hl hcap hL
 go_enter Tryz.func3, Tryz.ntmps3
 go_wp2_with fail
 refine HD.out.mono ?_
 rintro e W1 ⟨av, cv, cs, rfl, hv, hcv, hc, hb1⟩
 have HI := hid (implW W1 (HLa.out.stays hb1) hv hcv)
 have HV := hid hv
 have HC := hid (And.intro hc hcv)
 have HB1 := hid hb1
 clear HD hv hc hb1 hl' hcv
 obtain ⟨L, hLL⟩ : ∃ L, cs.length = L := ⟨_, rfl⟩
 have HL := hid hLL
 rw [hLL] at HV HI ⊢
 clear hLL
 go_wp2_with fail
 refine HI.out.mono ?_
 rintro e W2 ⟨⟨va, vb, rfl, sa, sb, -, hb2⟩, hwh⟩
 have eA : (depT cs).length = (envL cs).length := by unfold envL; rw [List.length_map]
 have eB : (depT cs).length = (stkL cs).length := by unfold stkL; rw [List.length_map]
 have HLe : Hid ((envL cs).length ≤ 960000 ∧ (stkL cs).length = (envL cs).length) := by
   refine ⟨?_, by omega⟩
   have h1 := HC.out.1
   have h2 : (depT cs).length ≤ cs.length := by
     unfold depT
     split
     · rename_i h
       rw [h.2.choose_spec.len]
       exact Nat.le_refl _
     · simp
   omega
 have HBad : Hid (validZ cs = false → (envL cs).length = 0) := fun h => by rw [← eA, depT_bad h]; rfl
 rw [eA] at sa
 rw [eB] at sb
 have HSA := hid sa.intSlice
 have HSB := hid sb.intSlice
 have HV2 := hid (HV.out.below hb2)
 have HB2 := hid (HB1.out.trans (hb2.mono HB1.out.size))
 have HWh : Hid (validZ cs = true → Told cs (envL cs) (stkL cs)) := fun h => told_of (hwh h)
 have HSp := hid (specBoth W2 HV2.out (by have := HC.out; omega))
 unfold BothP at HSp
 rw [eB] at HSp
 clear hwh sa sb hb2 HV HB1 HI eA eB
 obtain ⟨A, hA⟩ : ∃ A, envL cs = A := ⟨_, rfl⟩
 obtain ⟨B, hB⟩ : ∃ B, stkL cs = B := ⟨_, rfl⟩
 rw [hA, hB] at HLe HWh HSp
 rw [hA] at HSA HBad
 rw [hB] at HSB
 clear hA hB
 obtain ⟨aa, ca, rfl, -⟩ := id HSA.out
 obtain ⟨ab, cb, rfl, -⟩ := id HSB.out
 obtain ⟨ok, hok⟩ : ∃ ok, validZ cs = ok := ⟨_, rfl⟩
 have HOk := hid hok
 rw [hok] at HWh HSp HBad ⊢
 clear hok
 obtain ⟨n, hn⟩ : ∃ n, A.length = n := ⟨_, rfl⟩
 obtain ⟨m, hm⟩ : ∃ m, B.length = m := ⟨_, rfl⟩
 have HN := hid (And.intro hn hm)
 rw [hn] at HSA ⊢
 rw [hm] at HSB ⊢
 clear hn hm
 go_wp2_with fail
 refine HSp.out.mono ?_
 rintro e W3 ⟨wa, wb, rfl, ta, tb, hb3⟩
 have eB2 := HLe.out.2
 have HTA := hid (show IntSlice W3 wa A from by rw [eB2] at ta; exact ta.intSlice)
 have HTB := hid (show IntSlice W3 wb B from tb.intSlice)
 have HSA3 := hid (HSA.out.below hb3)
 have HSB3 := hid (HSB.out.below hb3)
 have HV3 := hid (HV2.out.below hb3)
 have HB3 := hid (HB2.out.trans (hb3.mono HB2.out.size))
 clear ta tb hb3 HSA HSB HV2 HB2 HSp eB2
 obtain ⟨wa1, wa2, rfl, -⟩ := id HTA.out
 obtain ⟨wb1, wb2, rfl, -⟩ := id HTB.out
 have hRR : (ok != ok) = false := by cases ok <;> rfl
 go_wp2_with fail
 refine (hrInts_any W3 (by have := HLe.out; omega) HSA3.out HTA.out).mono ?_
 rintro e W4 ⟨rfl, hb4⟩
 have HSA4 := hid (HSA3.out.below hb4)
 have HSB4 := hid (HSB3.out.below hb4)
 have HTB4 := hid (HTB.out.below hb4)
 have HV4 := hid (HV3.out.below hb4)
 have HB4 := hid (HB3.out.trans (hb4.mono HB3.out.size))
 clear hb4 HSA3 HSB3 HV3 HB3 HTA HTB
 go_wp2_with fail
 refine (hrInts_any W4 (by have := HLe.out; omega) HSB4.out HTB4.out).mono ?_
 rintro e W5 ⟨rfl, hb5⟩
 have HSA5 := hid (HSA4.out.below hb5)
 have HSB5 := hid (HSB4.out.below hb5)
 have HV5 := hid (HV4.out.below hb5)
 have HB5 := hid (HB4.out.trans (hb5.mono HB4.out.size))
 have HO := hid (implOk_any (is := cs) W5 (HLa.out.stays HB5.out) (by rw [HL.out]; exact HV5.out) HC.out.2)
 rw [HL.out, HOk.out] at HO
 clear hb5 HSA4 HSB4 HV4 HB4 HTB4
 go_wp2_with fail
 refine HO.out.mono ?_
 rintro e W6 ⟨rfl, hb6⟩
 have HSA6 := hid (HSA5.out.below hb6)
 have HSB6 := hid (HSB5.out.below hb6)
 have HV6 := hid (HV5.out.below hb6)
 have HB6 := hid (HB5.out.trans (hb6.mono HB5.out.size))
 clear hb6 HSA5 HSB5 HV5 HB5 HO hRR
 cases ok with
 | false =>
   obtain rfl : n = 0 := HN.out.1.symm.trans (HBad.out rfl)
   go_wp2_with fail
   go_ret
   exact ⟨rfl, HB6.out⟩
 | true =>
   have T := HWh.out rfl
   have hn : n = L := by have := HN.out; have := T.la; have := HL.out; omega
   have hm : m = L := by have := HN.out; have := T.lb; have := HL.out; omega
   subst hn hm
   have HT := hid T
   have h0 : 0 < cs.length := T.pos
   obtain ⟨ga, oa, rfl, la, hca⟩ := int_cells HSA6.out (by rw [T.la]; exact h0)
   obtain ⟨gb, ob, rfl, lb, hcb⟩ := int_cells HSB6.out (by rw [T.lb]; exact h0)
   obtain ⟨gi, oi, rfl, li, hci⟩ := ins_cells HV6.out h0
   have HCa := hid hca
   have HCb := hid hcb
   have HCi := hid hci
   have HLo := hid (And.intro la (And.intro lb li))
   clear T h0 hca hcb hci la lb li HSA6 HSB6 HV6 HWh HBad HOk HN HLe
   go_wp2_with fail
   go_loopw [10] (fun i wr => ∃ k : Nat, k ≤ m ∧ i = .int .i64 (k : Int) ∧ Hid (Below W6.heap.size W6 wr)) (fun i _ => m - (intOf i).toNat)
   case atStart => exact ⟨0, Nat.zero_le _, rfl, Below.refl _ _⟩
   case round =>
     obtain ⟨k, hk, rfl, HBr⟩ := hrel
     by_cases hkl : (k : Int) < (m : Int)
     · have hkc : k < cs.length := by rw [HL.out]; omega
       have hT := HT.out.at_ k hkc
       have ca : wr.cell? ⟨ga, oa + k, none⟩ = _ := (HBr.out.cell (p := ⟨ga, oa + k, none⟩) HLo.out.1).trans (HCa.out k (by rw [HT.out.la]; exact hkc))
       have cb : wr.cell? ⟨gb, ob + k, none⟩ = _ := (HBr.out.cell (p := ⟨gb, ob + k, none⟩) HLo.out.2.1).trans (HCb.out k (by rw [HT.out.lb]; exact hkc))
       have hc : ∀ j, j < 4 → wr.cell? ⟨gi, oi + k * 4 + j, none⟩ = some ((cs.getD k default).cell j) := fun j hj => (HBr.out.cell (p := ⟨gi, oi + k * 4 + j, none⟩) HLo.out.2.2).trans (HCi.out k hkc j hj)
       obtain ⟨⟨op, a, bb, c⟩, hi⟩ : ∃ x, cs.getD k default = x := ⟨_, rfl⟩
       rw [hi] at hc hT
       have c0 := hc 0 (by omega)
       have c1 := hc 1 (by omega)
       simp only [In.cell, Nat.add_zero] at c0 c1
       generalize A.getD k 0 = x at ca hT
       generalize B.getD k 0 = y at cb hT
       have hk0 : (0 : Int) ≤ (k : Int) := by omega
       have hstep : m - (intOf (.int .i64 ((k + 1 : Nat) : Int))).toNat < m - (intOf (.int .i64 (k : Int))).toNat := by simp only [intOf, Int.toNat_natCast]; omega
       have HKb : Hid (k ≤ 960000) := by show _ ≤ _; have := HC.out; have := HL.out; omega
       clear hc hi hkc
       by_cases hx : x < 0
       · clear hT
         go_wp2_with fail
         try rw [z31 (by have := HKb.out; omega)]
         exact ⟨⟨k + 1, by omega, rfl, HBr⟩, hstep⟩
       · obtain ⟨t1, t2, t3, t4⟩ := hT.resolve_left hx
         clear hT
         dsimp only at t1 t2 t3 t4
         have HBn : Hid (∀ nq, Below W6.heap.size W6 (wr.drewN nq)) := fun nq => z62 HBr.out nq
         rcases (show op = 5 ∨ (op ≠ 5 ∧ (op = 0 ∨ op = 9 ∨ op = 23)) ∨ (op ≠ 5 ∧ op ≠ 0 ∧ op ≠ 9 ∧ op ≠ 23) by omega) with h5 | ⟨h5, h6⟩ | ⟨h5, h0, h9, h23⟩
         · subst h5
           have ha := t1 rfl
           have hd : decide (x ≤ a) = false := by simp; omega
           clear t1 t2 t3 t4 ha
           go_wp2_with fail
           go_quiet (fail)
           go_wp2_with fail
           try rw [z31 (by have := HKb.out; omega)]
           exact ⟨⟨k + 1, by omega, rfl, HBn.out _⟩, hstep⟩
         · have hy := t2 h6
           subst hy
           clear t1 t2 t3 t4 h5
           rcases h6 with h6 | h6 | h6
           all_goals
             subst h6
             go_wp2_with fail
             go_quiet (fail)
             go_wp2_with fail
             try rw [z31 (by have := HKb.out; omega)]
             exact ⟨⟨k + 1, by omega, rfl, HBn.out _⟩, hstep⟩
         · have z5 : (op == 5) = false := by simpa using h5
           have z0 : (op == 0) = false := by simpa using h0
           have z9 : (op == 9) = false := by simpa using h9
           have z23 : (op == 23) = false := by simpa using h23
           have z24 : (op == 24) = false := by simpa using t3
           have z25 : (op == 25) = false := by simpa using t4
           clear t1 t2 t3 t4 h5 h0 h9 h23
           go_wp2_with fail
           go_quiet (fail)
           go_wp2_with fail
           try rw [z31 (by have := HKb.out; omega)]
           exact ⟨⟨k + 1, by omega, rfl, HBn.out _⟩, hstep⟩
     · have e : k = m := by omega
       subst e
       have ca : wr.cell? ⟨ga, oa + 0, none⟩ = _ := (HBr.out.cell (p := ⟨ga, oa + 0, none⟩) HLo.out.1).trans (HCa.out 0 (by rw [HT.out.la]; exact HT.out.pos))
       have cb : wr.cell? ⟨gb, ob + 0, none⟩ = _ := (HBr.out.cell (p := ⟨gb, ob + 0, none⟩) HLo.out.2.1).trans (HCb.out 0 (by rw [HT.out.lb]; exact HT.out.pos))
       rw [HT.out.a0] at ca
       rw [HT.out.b0] at cb
       rw [Nat.add_zero] at ca cb
       have hpos : (0 : Int) < (k : Int) := by have := HT.out.pos; have := HL.out; omega
       clear hk hkl
       go_wp2_with fail
       go_ret
       exact ⟨rfl, HB6.out.trans (HBr.out.mono HB6.out.size)⟩
end
section
open Go.ChangeShapes Go.WideShapes Go.RowKit
theorem le_var : Tryz.prog.globalNamed "errors.errorType" = some 0 := by kernel_rfl
theorem le_type : (Tryz.prog.cutTypes.find? (·.1 == "internal/reflectlite.rtype")).map (·.2) = some 136 := by kernel_rfl
theorem le_size : Tryz.prog.types.size = 195 := by kernel_rfl
theorem le_row : ((List.range 195).filter fun t => Tryz.prog.rowNamed t [101, 114, 114, 111, 114]) = [38] := by kernel_rfl
theorem le_handle : typeHandle Tryz.prog 38 = .pointer (some ⟨1, 38, none⟩) := by kernel_rfl
theorem of_laidE {W : World} (h : laidMetH Tryz.prog [("errors.errorType", Rows.laid_errors_errorType)] W) : LaidE W := by
 have h2 : laidMet Tryz.prog [] W ∧ handlesMet Tryz.prog [("errors.errorType", Rows.laid_errors_errorType)] W := h
 obtain ⟨nm, u, ty, e1, e2, e3, e4, e5⟩ := h2.2 _ (List.mem_singleton.2 rfl)
 obtain rfl : nm = [101, 114, 114, 111, 114] := (Option.some.inj e1).symm
 obtain rfl := Option.some.inj (le_type.symm.trans e2)
 rw [le_size] at e3
 have hm : ty ∈ (List.range 195).filter fun t => Tryz.prog.rowNamed t [101, 114, 114, 111, 114] := List.mem_filter.2 ⟨List.mem_range.2 e3, e4⟩
 rw [le_row] at hm
 obtain rfl := List.mem_singleton.1 hm
 rw [le_handle] at e5
 unfold LaidE
 simpa using World.var?_cell le_var e5 0
end
end Go.Proofs.YtfmkgppkgmjpfaaGreatDoor

namespace Go.Proofs.YtfmkgppkgmjpfaaGreatDoor.fnCodeDepths
open Go.ChangeShapes Go.WideShapes Go.ChangeAt Go.RowKit
theorem own : ownKnob Tryz.prog.godebug = none := by kernel_rfl
theorem laidOut : laidOutB Tryz.prog = true := by kernel_rfl
theorem spot_none {W : World} {a : Addr} {v : Value} (h : W.cell? a = some v) : a.spot = none := by
 unfold World.cell? at h
 split at h
 · by_cases hs : a.spot.isSome
   · simp [hs] at h
   · simpa using hs
 · cases h
theorem block_lt {W : World} {a : Addr} {v : Value} (h : W.cell? a = some v) : a.block < W.heap.size := by
 unfold World.cell? at h
 split at h
 · rename_i e
   obtain ⟨hlt, _⟩ := Array.getElem?_eq_some_iff.mp e
   exact hlt
 · cases h
theorem cells_u8 : Tryz.prog.cellsOf 5 = 1 := by kernel_rfl
theorem open_bytes {H : Type} {enc : TypeId × Value → H} {W : World} {sp : Nat → Bool} {held : Bool} {fuel : Nat} {v : Value} {x : DataW H × List MemPlace}
   (h : DataW.trod enc Tryz.prog W 0 sp held fuel 22 [v] = some x) :
   ∃ a0 len cap, v = .slice a0 len cap ∧ len ≤ cap ∧ len ≤ maxLen ∧ BytesAt W a0 len := by
 rcases open_ints Tryz.underlying22 Tryz.underlying5 cells_u8 h with ⟨hc, _⟩ | ⟨a, len, cap, zs, hc, _, hl, hm, hz, _, hcell, hwf⟩
 · simp at hc
   subst hc
   exact ⟨none, 0, 0, rfl, Nat.le_refl _, Nat.zero_le _, fun h => absurd h (by omega)⟩
 · simp at hc
   subst hc
   have hlm : len ≤ zs.length := by rw [hz]; split <;> omega
   refine ⟨some a, len, cap, rfl, hl, by omega, fun h0 => ?_⟩
   have hc0 := hcell 0 (by omega)
   have hs := spot_none hc0
   have hb := block_lt hc0
   obtain ⟨b, off, spot⟩ := a
   have hspot : spot = none := by simpa [Addr.add] using hs
   subst hspot
   refine ⟨b, off, rfl, by simpa [Addr.add] using hb, fun i hi => ?_⟩
   have hci := hcell i (by omega)
   have e : (Addr.add ⟨b, off, none⟩ i) = ⟨b, off + i, none⟩ := by
     unfold Addr.add
     split
     · rename_i h
       subst h
       rfl
     · rfl
   rw [e] at hci
   have hin : zs.getD i 0 ∈ zs := by
     rw [List.getD, List.getElem?_eq_getElem (show i < zs.length by omega)]
     exact List.getElem_mem _
   have hw := hwf _ hin
   simp only [Lit.wf, Bool.and_eq_true, decide_eq_true_eq] at hw
   exact ⟨_, hci, hw.1, hw.2⟩
set_option maxRecDepth 100000 in
theorem contract (H : Type) (enc : TypeId × Value → H) (W : World) (base : Nat) (args : Array Value) (ds gs : List (DataW H)) (before : List MemPlace)
   (hval0 : ∀ (j : Nat) t v, Tryz.f3.params[j]? = some t → args[j]? = some v → Value.okWide Tryz.prog W .any base t v)
   (hW : DataW.Whole enc Tryz.prog Tryz.f3.params.toList Rows.fnCodeDepthsSpec.vars false W args.toList ds gs before) (hL : laidMetH Tryz.prog Rows.fnCodeDepthsRow.laid W) :
   Calls Tryz.prog 3 args W fun e W' => ∃ v, e = .returned v ∧ Rows.fnCodeDepthsSpec.post enc Tryz.prog Tryz.f3 false true false false W args v W' := by
 have hval : ∀ (j : Nat) t v, Tryz.f3.params[j]? = some t → args[j]? = some v → Value.okWide Tryz.prog W .any base t v := hval0
 have hW' := hW
 obtain ⟨p, q, hA0, hV0, rfl, hfz, hnd⟩ := hW
 have hA : DataW.TrodAll enc Tryz.prog W 0 (fun _ => true) true Tryz.f3.params.toList args.toList ds p := hA0
 rw [Tryz.params3] at hA hval
 obtain ⟨v0, vs0, d0, ds0, p0, q0, hargs, rfl, rfl, h0, r0⟩ := trodAll_cons hA
 obtain ⟨rfl, rfl, rfl⟩ := trodAll_nil r0
 obtain rfl : args = #[v0] := by cases args; simp_all
 have hLa := of_laidE hL
 obtain ⟨rfl, rfl⟩ := trodVars_none hV0
 simp only [List.append_nil] at hW'
 clear hA0 hval0
 have hlt : ∀ y ∈ p0, y.block < W.heap.size := fun y hy => hW'.lt y (by simp [hy])
 have h0k := h0
 obtain ⟨fuel0, hf⟩ := h0
 obtain ⟨a1, len1, cap1, rfl⟩ := okWide_slice Tryz.underlying22 (hval 0 22 v0 rfl rfl)
 obtain ⟨a0, len, cap, hv, hl, -, hB⟩ := open_bytes (by simpa [Value.cells] using hf)
 cases hv
 refine (depths_walk _ _ _ W hl hB hLa).mono fun e W' ⟨he, hgr⟩ => ?_
 subst he
 refine ⟨_, rfl, _, _, _, [], p0, [], hW', ?_, ?_, rfl, hgr.frame _, fun h => by cases h⟩
 · exact trodAll_cons_mk (shut_bool Tryz.underlying4 _) trodAll_mk0
 · exact trodAll_mk1 (Below.trod laidOut (by kernel_rfl) (of_decide_eq_true (by kernel_rfl)) h0k hgr hlt)
theorem laid_met (os : Os) : laidMetH Tryz.prog Rows.fnCodeDepthsRow.laid ((World.doorLaid Tryz.prog 400 os).forCall (fun _ _ => 0) ⟨#[], #[.slice none 0 0], []⟩).memory :=
 laidMetH_of_parts (laidMet_nil _ _) (by kernel_rfl)
theorem reads (os : Os) {H : Type} (enc : TypeId × Value → H) : DataW.whole enc Tryz.prog ((World.doorLaid Tryz.prog 400 os).forCall (fun _ _ => 0) ⟨#[], #[.slice none 0 0], []⟩).memory Tryz.f3.params.toList Rows.fnCodeDepthsSpec.vars false #[Value.slice none 0 0].toList 8 = some ([.nil], [], []) := by kernel_rfl
set_option maxRecDepth 100000 in
theorem lifted (os : Os) (started : os.Started) (H : Type) (enc : TypeId × Value → H) (F : Stop.Interp) :
   ReturnsInHanded {} Tryz.checked os 3 .any ((OpenSpec.ofChange Rows.fnCodeDepthsSpec).preRow enc Tryz.prog Tryz.f3 Rows.fnCodeDepthsRow.domain false Rows.fnCodeDepthsRow.laid) (((OpenSpec.ofChange Rows.fnCodeDepthsSpec).at F).post enc Tryz.prog Tryz.f3 false true false false) := by
 have hx := reads os enc
 refine returnsInHanded_of_row (C := Tryz.checked) (s := OpenSpec.ofChange Rows.fnCodeDepthsSpec) own started (by kernel_rfl) Tryz.func3
   (witness_row_at (enc := enc) (C := Tryz.checked) false (World.doorLaid Tryz.prog 400 os) #[.slice none 0 0] rfl (by kernel_rfl) (by kernel_rfl) (by kernel_rfl)
     (OpenSpec.preRow_of_cond 8 hx (by kernel_rfl) (fun k hk => by cases hk) (by kernel_rfl) (laid_met os))) ?_
 intro W base args ds gs before hval hW _ _ _ hL _ _
 exact contract H enc W base args ds gs before hval hW hL
theorem said : Rows.FnCodeDepthsSaid :=
 OpenClaim.holds_of_cond 3 Tryz.f3 rfl rfl rfl rfl rfl rfl rfl ⟨rfl, rfl, rfl, rfl, rfl⟩ rfl rfl rfl rfl rfl (by kernel_rfl) Tryz.func3 (by kernel_rfl)
   (of_decide_eq_true (by kernel_rfl)) (by unfold Func.isWrapper; first | (rw [if_pos (by decide +kernel)]; kernel_rfl) | (rw [if_neg (by decide +kernel)]; exact ⟨rfl, rfl⟩))
   (fun os started H enc _ F => by rw [OpenClaim.pre_eq_preRow]; exact lifted os started H enc F)
theorem plain (f : FuncId) (fn : Func) (hf : Tryz.pinned.checked.prog.funcNamed "loop.example/handrail/laws.FnCodeDepths" = some f) (hfn : Tryz.pinned.checked.prog.funcs[f]? = some fn) :
   true = Tryz.pinned.checked.prog.looks [] ∧ ∀ (j : Nat) t, fn.params[j]? = some t → Tryz.pinned.checked.prog.wantsStandIn t = false := by
 obtain rfl : f = 3 := Option.some.inj ((show Tryz.prog.funcNamed "loop.example/handrail/laws.FnCodeDepths" = some 3 by kernel_rfl).symm.trans hf) |>.symm
 obtain rfl : fn = Tryz.f3 := (Option.some.inj (Tryz.func3.symm.trans hfn)).symm
 refine ⟨by kernel_rfl, fun j t ht => ?_⟩
 rw [Tryz.params3] at ht
 obtain rfl : t = 22 := by simpa using Array.mem_of_getElem? ht
 exact (show Tryz.prog.wantsStandIn 22 = false by kernel_rfl)
theorem proved : Rows.FnCodeDepthsCardSaid :=
 Claim7.holds_tied_plain_at .later [] _ _ _ _ said (fun _ h => by cases h) (by kernel_rfl) (fun _ h => by cases h) fnCodeDepths_row_tie rfl ⟨rfl, rfl⟩ (by kernel_rfl) rfl plain (by kernel_rfl)
#print axioms proved
end Go.Proofs.YtfmkgppkgmjpfaaGreatDoor.fnCodeDepths
