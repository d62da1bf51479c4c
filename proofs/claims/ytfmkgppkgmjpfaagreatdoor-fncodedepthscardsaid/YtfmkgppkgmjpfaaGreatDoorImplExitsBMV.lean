/- What an instruction comes to, in the program, op by op. -/
import Derived.Test.YtfmkgppkgmjpfaaGreatDoorGrpMV5
namespace Go.Proofs.YtfmkgppkgmjpfaaGreatDoor
open Go.RowKit Go.Conc

set_option maxRecDepth 100000 in
set_option maxHeartbeats 8000000 in
theorem exits_1 {W : World} {Fb bc oc cc gs N k : Nat} {is : List In} {a b c n v p : Int} (hk0 : (0 : Int) ≤ (k : Int)) (hk1 : (k : Int) < (N : Int)) (hkN : k ≤ 1500) (hn0 : 0 ≤ n) (hn1 : n ≤ 100) (hv0 : 0 ≤ v) (hv1 : v ≤ 100) (f0 : W.cell? ⟨Fb, 0, none⟩ = some (.slice (some ⟨bc, oc, none⟩) N cc)) (f1 : W.cell? ⟨Fb, 1, none⟩ = some (.slice (some ⟨gs, 0, none⟩) N N)) (f2 : W.cell? ⟨bc, oc + k * 4, none⟩ = some (.int .i64 1)) (f3 : W.cell? ⟨bc, oc + k * 4 + 1, none⟩ = some (.int .i64 a)) (f4 : W.cell? ⟨bc, oc + k * 4 + 2, none⟩ = some (.int .i64 b)) (f5 : W.cell? ⟨bc, oc + k * 4 + 3, none⟩ = some (.int .i64 c)) (f6 : W.cell? ⟨gs, k * 3, none⟩ = some (.int .i64 n)) (f7 : W.cell? ⟨gs, k * 3 + 1, none⟩ = some (.int .i64 v)) (f8 : W.cell? ⟨gs, k * 3 + 2, none⟩ = some (.int .i64 p)) :
    Calls Tryz.prog 36 #[.pointer (some ⟨Fb, 0, none⟩), .int .i64 (k : Int)] W (ExitsP (exitsZ is k ⟨1, a, b, c⟩ ⟨n, v, p⟩) W) := by
  have hexz : exitsZ is k ⟨1, a, b, c⟩ ⟨n, v, p⟩ = [((k : Int) + 1, (⟨n + 0, v + 1, p⟩ : Sq))] := by simp [exitsZ, Sq.more]
  have HX := hid hexz
  clear hexz
  have w1 : wrap64 ((k : Int) + 1) = (k : Int) + 1 := by rw [wrap64]; omega
  have w2 : wrap64 (n + 1) = n + 1 := by rw [wrap64]; omega
  have w3 : wrap64 (n + 2) = n + 2 := by rw [wrap64]; omega
  have HM : Hid (0 ≤ n ∧ n ≤ 100 ∧ 0 ≤ v ∧ v ≤ 100) := ⟨hn0, hn1, hv0, hv1⟩
  clear hn0 hn1 hv0 hv1 hkN
  go_enter Tryz.func36, Tryz.ntmps36
  go_wp2_with fail
  have hD : Below W.heap.size W W.drew := (Below.refl _ _).drew
  have HCl : Hid (∀ X, Below W.heap.size W X → (fun w' : World => w'.cell? ⟨Fb, 0, none⟩ = some (.slice (some ⟨bc, oc, none⟩) N cc) ∧ w'.cell? ⟨Fb, 1, none⟩ = some (.slice (some ⟨gs, 0, none⟩) N N) ∧ w'.cell? ⟨bc, oc + k * 4, none⟩ = some (.int .i64 1) ∧ w'.cell? ⟨bc, oc + k * 4 + 1, none⟩ = some (.int .i64 a) ∧ w'.cell? ⟨bc, oc + k * 4 + 2, none⟩ = some (.int .i64 b) ∧ w'.cell? ⟨bc, oc + k * 4 + 3, none⟩ = some (.int .i64 c) ∧ w'.cell? ⟨gs, k * 3, none⟩ = some (.int .i64 n) ∧ w'.cell? ⟨gs, k * 3 + 1, none⟩ = some (.int .i64 v) ∧ w'.cell? ⟨gs, k * 3 + 2, none⟩ = some (.int .i64 p)) X) := fun X hX => ⟨(hX.cell (block_in0 f0)).trans f0, (hX.cell (block_in0 f1)).trans f1, (hX.cell (block_in0 f2)).trans f2, (hX.cell (block_in0 f3)).trans f3, (hX.cell (block_in0 f4)).trans f4, (hX.cell (block_in0 f5)).trans f5, (hX.cell (block_in0 f6)).trans f6, (hX.cell (block_in0 f7)).trans f7, (hX.cell (block_in0 f8)).trans f8⟩
  have hS := HCl.out W.drew hD
  refine pick_begin (S := (fun w' : World => w'.cell? ⟨Fb, 0, none⟩ = some (.slice (some ⟨bc, oc, none⟩) N cc) ∧ w'.cell? ⟨Fb, 1, none⟩ = some (.slice (some ⟨gs, 0, none⟩) N N) ∧ w'.cell? ⟨bc, oc + k * 4, none⟩ = some (.int .i64 1) ∧ w'.cell? ⟨bc, oc + k * 4 + 1, none⟩ = some (.int .i64 a) ∧ w'.cell? ⟨bc, oc + k * 4 + 2, none⟩ = some (.int .i64 b) ∧ w'.cell? ⟨bc, oc + k * 4 + 3, none⟩ = some (.int .i64 c) ∧ w'.cell? ⟨gs, k * 3, none⟩ = some (.int .i64 n) ∧ w'.cell? ⟨gs, k * 3 + 1, none⟩ = some (.int .i64 v) ∧ w'.cell? ⟨gs, k * 3 + 2, none⟩ = some (.int .i64 p))) (by kernel_rfl) rfl rfl ?_
  refine pick_op (i := 0) (v := .pointer (some ⟨Fb, 0, none⟩)) (by kernel_rfl) rfl (by kernel_rfl) (by kernel_rfl) rfl rfl (fun w' _ => by simp [go_sem]) hS (by simp [go_sem]; exact rfl) ?_
  refine pick_op (i := 1) (v := .pointer (some ⟨Fb, 0, none⟩)) (by kernel_rfl) rfl (by kernel_rfl) (by kernel_rfl) rfl rfl (fun w' _ => by simp [go_sem]) hS (by simp [go_sem]; exact rfl) ?_
  refine pick_op (i := 2) (v := .pointer (some ⟨Fb, 0, none⟩)) (by kernel_rfl) rfl (by kernel_rfl) (by kernel_rfl) rfl rfl (fun w' _ => by simp [go_sem]) hS (by simp [go_sem]; exact rfl) ?_
  refine pick_op (i := 3) (v := .slice (some ⟨bc, oc, none⟩) N cc) (by kernel_rfl) rfl (by kernel_rfl) (by kernel_rfl) rfl rfl (fun w' h => by simp [go_sem, h.1]) hS (by simp [go_sem]; exact rfl) ?_
  refine pick_op (i := 4) (v := .int .i64 (k : Int)) (by kernel_rfl) rfl (by kernel_rfl) (by kernel_rfl) rfl rfl (fun w' _ => by simp [go_sem]) hS (by simp [go_sem]; exact rfl) ?_
  refine pick_op (i := 5) (v := .pointer (some ⟨bc, oc + k * 4, none⟩)) (by kernel_rfl) rfl (by kernel_rfl) (by kernel_rfl) rfl rfl (fun w' _ => by simp [go_sem, hk0, hk1]) hS (by simp [go_sem]; exact rfl) ?_
  refine pick_op (i := 6) (v := .agg #[.int .i64 1, .int .i64 a, .int .i64 b, .int .i64 c]) (by kernel_rfl) rfl (by kernel_rfl) (by kernel_rfl) rfl rfl (fun w' h => by simp [go_sem, h.2.2.1, h.2.2.2.1, h.2.2.2.2.1, h.2.2.2.2.2.1]) hS (by simp [go_sem]; exact rfl) ?_
  refine pick_op (i := 7) (v := .pointer (some ⟨Fb, 0, none⟩)) (by kernel_rfl) rfl (by kernel_rfl) (by kernel_rfl) rfl rfl (fun w' _ => by simp [go_sem]) hS (by simp [go_sem]; exact rfl) ?_
  refine pick_op (i := 8) (v := .pointer (some ⟨Fb, 0, none⟩)) (by kernel_rfl) rfl (by kernel_rfl) (by kernel_rfl) rfl rfl (fun w' _ => by simp [go_sem]) hS (by simp [go_sem]; exact rfl) ?_
  refine pick_op (i := 9) (v := .pointer (some ⟨Fb, 1, none⟩)) (by kernel_rfl) rfl (by kernel_rfl) (by kernel_rfl) rfl rfl (fun w' _ => by simp [go_sem]) hS (by simp [go_sem]; exact rfl) ?_
  refine pick_op (i := 10) (v := .slice (some ⟨gs, 0, none⟩) N N) (by kernel_rfl) rfl (by kernel_rfl) (by kernel_rfl) rfl rfl (fun w' h => by simp [go_sem, h.2.1]) hS (by simp [go_sem]; exact rfl) ?_
  refine pick_op (i := 11) (v := .int .i64 (k : Int)) (by kernel_rfl) rfl (by kernel_rfl) (by kernel_rfl) rfl rfl (fun w' _ => by simp [go_sem]) hS (by simp [go_sem]; exact rfl) ?_
  refine pick_op (i := 12) (v := .pointer (some ⟨gs, k * 3, none⟩)) (by kernel_rfl) rfl (by kernel_rfl) (by kernel_rfl) rfl rfl (fun w' _ => by simp [go_sem, hk0, hk1]) hS (by simp [go_sem]; exact rfl) ?_
  refine pick_op (i := 13) (v := .agg #[.int .i64 n, .int .i64 v, .int .i64 p]) (by kernel_rfl) rfl (by kernel_rfl) (by kernel_rfl) rfl rfl (fun w' h => by simp [go_sem, h.2.2.2.2.2.2.1, h.2.2.2.2.2.2.2.1, h.2.2.2.2.2.2.2.2]) hS (by simp [go_sem]; exact rfl) ?_
  refine pick_op (i := 14) (v := .int .i64 (k : Int)) (by kernel_rfl) rfl (by kernel_rfl) (by kernel_rfl) rfl rfl (fun w' _ => by simp [go_sem]) hS (by simp [go_sem]; exact rfl) ?_
  refine pick_op (i := 15) (v := .int .i64 ((k : Int) + 1)) (by kernel_rfl) rfl (by kernel_rfl) (by kernel_rfl) rfl rfl (fun w' _ => by simp [go_sem]; exact (IntWalk.i64_left _).trans w1) hS (by simp [go_sem]; exact rfl) ?_
  refine pick_fork (i := 16) (j := 17) (by kernel_rfl) ?_ ?_
  · have hB1 : Below W.heap.size W (W.drew.alloc (.cells #[.int .i64 0, .int .i64 0, .int .i64 0, .int .i64 0] 31)) := hD.alloc hD.size _
    have hB2 : Below W.heap.size W ((W.drew.alloc (.cells #[.int .i64 0, .int .i64 0, .int .i64 0, .int .i64 0] 31)).alloc (.cells #[.int .i64 0, .int .i64 0, .int .i64 0] 43)) := hB1.alloc hB1.size _
    refine ⟨_, .pointer (some ⟨W.heap.size, 0, none⟩), (W.drew.alloc (.cells #[.int .i64 0, .int .i64 0, .int .i64 0, .int .i64 0] 31)), rfl, rfl, by simp [go_sem], HCl.out _ hB1, ?_⟩
    refine pick_frame (by simp [go_sem]; exact rfl) ?_
    refine pick_make (i := 17) (v := .pointer (some ⟨W.heap.size + 1, 0, none⟩)) (w1 := ((W.drew.alloc (.cells #[.int .i64 0, .int .i64 0, .int .i64 0, .int .i64 0] 31)).alloc (.cells #[.int .i64 0, .int .i64 0, .int .i64 0] 43))) rfl (by kernel_rfl) rfl rfl (by simp [go_sem]) (HCl.out _ hB2) (by simp [go_sem]; exact rfl) ?_
    have g5 : ((W.drew.alloc (.cells #[.int .i64 0, .int .i64 0, .int .i64 0, .int .i64 0] 31)).alloc (.cells #[.int .i64 0, .int .i64 0, .int .i64 0] 43)).heap[W.heap.size]? = some (.cells #[.int .i64 0, .int .i64 0, .int .i64 0, .int .i64 0] 31) := (two_new W.drew _ _).1
    have g6 : ((W.drew.alloc (.cells #[.int .i64 0, .int .i64 0, .int .i64 0, .int .i64 0] 31)).alloc (.cells #[.int .i64 0, .int .i64 0, .int .i64 0] 43)).heap[W.heap.size + 1]? = some (.cells #[.int .i64 0, .int .i64 0, .int .i64 0] 43) := (two_new W.drew _ _).2
    have HBx := hid (boxed hB2 g5 g6 (by omega) (by omega) 1 a b c n v p)
    have HB4 : Hid (Below W.heap.size W (put4 ((W.drew.alloc (.cells #[.int .i64 0, .int .i64 0, .int .i64 0, .int .i64 0] 31)).alloc (.cells #[.int .i64 0, .int .i64 0, .int .i64 0] 43)) (W.heap.size) (.int .i64 1) (.int .i64 a) (.int .i64 b) (.int .i64 c))) := by
      obtain ⟨p1, p2, p3, p4, p5, p6⟩ := put4_is g5 (.int .i64 1) (.int .i64 a) (.int .i64 b) (.int .i64 c)
      exact ⟨p4.trans hB2.os, p5.trans hB2.tape, p6.trans hB2.output, by rw [p3]; exact hB2.size, fun q hq => (p2 q (by omega)).trans (hB2.block q hq)⟩
    refine pick_skip (i := 18) rfl (w1 := put4 ((W.drew.alloc (.cells #[.int .i64 0, .int .i64 0, .int .i64 0, .int .i64 0] 31)).alloc (.cells #[.int .i64 0, .int .i64 0, .int .i64 0] 43)) (W.heap.size) (.int .i64 1) (.int .i64 a) (.int .i64 b) (.int .i64 c)) rfl (by kernel_rfl) rfl rfl (by simp [go_sem, put4]) (HCl.out _ HB4.out) ?_
    refine pick_skip (i := 19) rfl (w1 := put3 (put4 ((W.drew.alloc (.cells #[.int .i64 0, .int .i64 0, .int .i64 0, .int .i64 0] 31)).alloc (.cells #[.int .i64 0, .int .i64 0, .int .i64 0] 43)) (W.heap.size) (.int .i64 1) (.int .i64 a) (.int .i64 b) (.int .i64 c)) (W.heap.size + 1) (.int .i64 n) (.int .i64 v) (.int .i64 p)) rfl (by kernel_rfl) rfl rfl (by simp [go_sem, put4, put3]) (HCl.out _ HBx.out.bel) ?_
    refine pick_make (i := 20) (v := .int .i64 ((k : Int) + 1)) (w1 := put3 (put4 ((W.drew.alloc (.cells #[.int .i64 0, .int .i64 0, .int .i64 0, .int .i64 0] 31)).alloc (.cells #[.int .i64 0, .int .i64 0, .int .i64 0] 43)) (W.heap.size) (.int .i64 1) (.int .i64 a) (.int .i64 b) (.int .i64 c)) (W.heap.size + 1) (.int .i64 n) (.int .i64 v) (.int .i64 p)) rfl (by kernel_rfl) rfl rfl (by simp [go_sem]) (HCl.out _ HBx.out.bel) (by simp [go_sem]; exact rfl) ?_
    refine pick_end (by kernel_rfl) ?_
    obtain ⟨X, hX⟩ : ∃ X, put3 (put4 ((W.drew.alloc (.cells #[.int .i64 0, .int .i64 0, .int .i64 0, .int .i64 0] 31)).alloc (.cells #[.int .i64 0, .int .i64 0, .int .i64 0] 43)) (W.heap.size) (.int .i64 1) (.int .i64 a) (.int .i64 b) (.int .i64 c)) (W.heap.size + 1) (.int .i64 n) (.int .i64 v) (.int .i64 p) = X := ⟨_, rfl⟩
    rw [hX] at HBx ⊢
    obtain ⟨b5, hb5⟩ : ∃ x, W.heap.size = x := ⟨_, rfl⟩
    obtain ⟨b6, hb6⟩ : ∃ x, W.heap.size + 1 = x := ⟨_, rfl⟩
    rw [hb6] at HBx ⊢
    rw [hb5] at HBx ⊢
    clear hX hb5 hb6 g5 g6 hB1 hB2 HB4 hS HCl hD
    clear f0 f1 f2 f3 f4 f5 f6 f7 f8
    have i0 := cell_of_heap HBx.out.i 0
    have i1 := cell_of_heap HBx.out.i 1
    have i3 := cell_of_heap HBx.out.i 3
    have s0 := cell_of_heap HBx.out.s 0
    have s1 := cell_of_heap HBx.out.s 1
    have s2 := cell_of_heap HBx.out.s 2
    simp at i0 i1 i3 s0 s1 s2
    go_wp2_with fail
    refine (more_calls n v p (0) (1) _ (by have := HM.out; rw [wrap64]; omega) (by have := HM.out; rw [wrap64]; omega)).mono ?_
    rintro e X2 ⟨rfl, hb2⟩
    have HB2 := hid (HBx.out.bel.trans (hb2.mono HBx.out.bel.size))
    clear hb2 i0 i1 i3 s0 s1 s2 HBx
    go_wp2_with fail
    go_ret
    rw [HX.out]
    exact exits_one HB2.out (by first | rfl | simp)
  · have hB1 : Below W.heap.size W (W.drew.alloc (.cells #[.int .i64 0, .int .i64 0, .int .i64 0] 43)) := hD.alloc hD.size _
    have hB2 : Below W.heap.size W ((W.drew.alloc (.cells #[.int .i64 0, .int .i64 0, .int .i64 0] 43)).alloc (.cells #[.int .i64 0, .int .i64 0, .int .i64 0, .int .i64 0] 31)) := hB1.alloc hB1.size _
    refine ⟨_, .pointer (some ⟨W.heap.size, 0, none⟩), (W.drew.alloc (.cells #[.int .i64 0, .int .i64 0, .int .i64 0] 43)), rfl, rfl, by simp [go_sem], HCl.out _ hB1, ?_⟩
    refine pick_frame (by simp [go_sem]; exact rfl) ?_
    refine pick_make (i := 16) (v := .pointer (some ⟨W.heap.size + 1, 0, none⟩)) (w1 := ((W.drew.alloc (.cells #[.int .i64 0, .int .i64 0, .int .i64 0] 43)).alloc (.cells #[.int .i64 0, .int .i64 0, .int .i64 0, .int .i64 0] 31))) rfl (by kernel_rfl) rfl rfl (by simp [go_sem]) (HCl.out _ hB2) (by simp [go_sem]; exact rfl) ?_
    have g5 : ((W.drew.alloc (.cells #[.int .i64 0, .int .i64 0, .int .i64 0] 43)).alloc (.cells #[.int .i64 0, .int .i64 0, .int .i64 0, .int .i64 0] 31)).heap[W.heap.size + 1]? = some (.cells #[.int .i64 0, .int .i64 0, .int .i64 0, .int .i64 0] 31) := (two_new W.drew _ _).2
    have g6 : ((W.drew.alloc (.cells #[.int .i64 0, .int .i64 0, .int .i64 0] 43)).alloc (.cells #[.int .i64 0, .int .i64 0, .int .i64 0, .int .i64 0] 31)).heap[W.heap.size]? = some (.cells #[.int .i64 0, .int .i64 0, .int .i64 0] 43) := (two_new W.drew _ _).1
    have HBx := hid (boxed hB2 g5 g6 (by omega) (by omega) 1 a b c n v p)
    have HB4 : Hid (Below W.heap.size W (put4 ((W.drew.alloc (.cells #[.int .i64 0, .int .i64 0, .int .i64 0] 43)).alloc (.cells #[.int .i64 0, .int .i64 0, .int .i64 0, .int .i64 0] 31)) (W.heap.size + 1) (.int .i64 1) (.int .i64 a) (.int .i64 b) (.int .i64 c))) := by
      obtain ⟨p1, p2, p3, p4, p5, p6⟩ := put4_is g5 (.int .i64 1) (.int .i64 a) (.int .i64 b) (.int .i64 c)
      exact ⟨p4.trans hB2.os, p5.trans hB2.tape, p6.trans hB2.output, by rw [p3]; exact hB2.size, fun q hq => (p2 q (by omega)).trans (hB2.block q hq)⟩
    refine pick_skip (i := 18) rfl (w1 := put4 ((W.drew.alloc (.cells #[.int .i64 0, .int .i64 0, .int .i64 0] 43)).alloc (.cells #[.int .i64 0, .int .i64 0, .int .i64 0, .int .i64 0] 31)) (W.heap.size + 1) (.int .i64 1) (.int .i64 a) (.int .i64 b) (.int .i64 c)) rfl (by kernel_rfl) rfl rfl (by simp [go_sem, put4]) (HCl.out _ HB4.out) ?_
    refine pick_skip (i := 19) rfl (w1 := put3 (put4 ((W.drew.alloc (.cells #[.int .i64 0, .int .i64 0, .int .i64 0] 43)).alloc (.cells #[.int .i64 0, .int .i64 0, .int .i64 0, .int .i64 0] 31)) (W.heap.size + 1) (.int .i64 1) (.int .i64 a) (.int .i64 b) (.int .i64 c)) (W.heap.size) (.int .i64 n) (.int .i64 v) (.int .i64 p)) rfl (by kernel_rfl) rfl rfl (by simp [go_sem, put4, put3]) (HCl.out _ HBx.out.bel) ?_
    refine pick_make (i := 20) (v := .int .i64 ((k : Int) + 1)) (w1 := put3 (put4 ((W.drew.alloc (.cells #[.int .i64 0, .int .i64 0, .int .i64 0] 43)).alloc (.cells #[.int .i64 0, .int .i64 0, .int .i64 0, .int .i64 0] 31)) (W.heap.size + 1) (.int .i64 1) (.int .i64 a) (.int .i64 b) (.int .i64 c)) (W.heap.size) (.int .i64 n) (.int .i64 v) (.int .i64 p)) rfl (by kernel_rfl) rfl rfl (by simp [go_sem]) (HCl.out _ HBx.out.bel) (by simp [go_sem]; exact rfl) ?_
    refine pick_end (by kernel_rfl) ?_
    obtain ⟨X, hX⟩ : ∃ X, put3 (put4 ((W.drew.alloc (.cells #[.int .i64 0, .int .i64 0, .int .i64 0] 43)).alloc (.cells #[.int .i64 0, .int .i64 0, .int .i64 0, .int .i64 0] 31)) (W.heap.size + 1) (.int .i64 1) (.int .i64 a) (.int .i64 b) (.int .i64 c)) (W.heap.size) (.int .i64 n) (.int .i64 v) (.int .i64 p) = X := ⟨_, rfl⟩
    rw [hX] at HBx ⊢
    obtain ⟨b5, hb5⟩ : ∃ x, W.heap.size + 1 = x := ⟨_, rfl⟩
    obtain ⟨b6, hb6⟩ : ∃ x, W.heap.size = x := ⟨_, rfl⟩
    rw [hb5] at HBx ⊢
    rw [hb6] at HBx ⊢
    clear hX hb5 hb6 g5 g6 hB1 hB2 HB4 hS HCl hD
    clear f0 f1 f2 f3 f4 f5 f6 f7 f8
    have i0 := cell_of_heap HBx.out.i 0
    have i1 := cell_of_heap HBx.out.i 1
    have i3 := cell_of_heap HBx.out.i 3
    have s0 := cell_of_heap HBx.out.s 0
    have s1 := cell_of_heap HBx.out.s 1
    have s2 := cell_of_heap HBx.out.s 2
    simp at i0 i1 i3 s0 s1 s2
    go_wp2_with fail
    refine (more_calls n v p (0) (1) _ (by have := HM.out; rw [wrap64]; omega) (by have := HM.out; rw [wrap64]; omega)).mono ?_
    rintro e X2 ⟨rfl, hb2⟩
    have HB2 := hid (HBx.out.bel.trans (hb2.mono HBx.out.bel.size))
    clear hb2 i0 i1 i3 s0 s1 s2 HBx
    go_wp2_with fail
    go_ret
    rw [HX.out]
    exact exits_one HB2.out (by first | rfl | simp)

set_option maxRecDepth 100000 in
set_option maxHeartbeats 8000000 in
theorem exits_2 {W : World} {Fb bc oc cc gs N k : Nat} {is : List In} {a b c n v p : Int} (hk0 : (0 : Int) ≤ (k : Int)) (hk1 : (k : Int) < (N : Int)) (hkN : k ≤ 1500) (hn0 : 0 ≤ n) (hn1 : n ≤ 100) (hv0 : 0 ≤ v) (hv1 : v ≤ 100) (f0 : W.cell? ⟨Fb, 0, none⟩ = some (.slice (some ⟨bc, oc, none⟩) N cc)) (f1 : W.cell? ⟨Fb, 1, none⟩ = some (.slice (some ⟨gs, 0, none⟩) N N)) (f2 : W.cell? ⟨bc, oc + k * 4, none⟩ = some (.int .i64 2)) (f3 : W.cell? ⟨bc, oc + k * 4 + 1, none⟩ = some (.int .i64 a)) (f4 : W.cell? ⟨bc, oc + k * 4 + 2, none⟩ = some (.int .i64 b)) (f5 : W.cell? ⟨bc, oc + k * 4 + 3, none⟩ = some (.int .i64 c)) (f6 : W.cell? ⟨gs, k * 3, none⟩ = some (.int .i64 n)) (f7 : W.cell? ⟨gs, k * 3 + 1, none⟩ = some (.int .i64 v)) (f8 : W.cell? ⟨gs, k * 3 + 2, none⟩ = some (.int .i64 p)) :
    Calls Tryz.prog 36 #[.pointer (some ⟨Fb, 0, none⟩), .int .i64 (k : Int)] W (ExitsP (exitsZ is k ⟨2, a, b, c⟩ ⟨n, v, p⟩) W) := by
  have hexz : exitsZ is k ⟨2, a, b, c⟩ ⟨n, v, p⟩ = [((k : Int) + 1, (⟨n + 0, v + 1, p⟩ : Sq))] := by simp [exitsZ, Sq.more]
  have HX := hid hexz
  clear hexz
  have w1 : wrap64 ((k : Int) + 1) = (k : Int) + 1 := by rw [wrap64]; omega
  have w2 : wrap64 (n + 1) = n + 1 := by rw [wrap64]; omega
  have w3 : wrap64 (n + 2) = n + 2 := by rw [wrap64]; omega
  have HM : Hid (0 ≤ n ∧ n ≤ 100 ∧ 0 ≤ v ∧ v ≤ 100) := ⟨hn0, hn1, hv0, hv1⟩
  clear hn0 hn1 hv0 hv1 hkN
  go_enter Tryz.func36, Tryz.ntmps36
  go_wp2_with fail
  have hD : Below W.heap.size W W.drew := (Below.refl _ _).drew
  have HCl : Hid (∀ X, Below W.heap.size W X → (fun w' : World => w'.cell? ⟨Fb, 0, none⟩ = some (.slice (some ⟨bc, oc, none⟩) N cc) ∧ w'.cell? ⟨Fb, 1, none⟩ = some (.slice (some ⟨gs, 0, none⟩) N N) ∧ w'.cell? ⟨bc, oc + k * 4, none⟩ = some (.int .i64 2) ∧ w'.cell? ⟨bc, oc + k * 4 + 1, none⟩ = some (.int .i64 a) ∧ w'.cell? ⟨bc, oc + k * 4 + 2, none⟩ = some (.int .i64 b) ∧ w'.cell? ⟨bc, oc + k * 4 + 3, none⟩ = some (.int .i64 c) ∧ w'.cell? ⟨gs, k * 3, none⟩ = some (.int .i64 n) ∧ w'.cell? ⟨gs, k * 3 + 1, none⟩ = some (.int .i64 v) ∧ w'.cell? ⟨gs, k * 3 + 2, none⟩ = some (.int .i64 p)) X) := fun X hX => ⟨(hX.cell (block_in0 f0)).trans f0, (hX.cell (block_in0 f1)).trans f1, (hX.cell (block_in0 f2)).trans f2, (hX.cell (block_in0 f3)).trans f3, (hX.cell (block_in0 f4)).trans f4, (hX.cell (block_in0 f5)).trans f5, (hX.cell (block_in0 f6)).trans f6, (hX.cell (block_in0 f7)).trans f7, (hX.cell (block_in0 f8)).trans f8⟩
  have hS := HCl.out W.drew hD
  refine pick_begin (S := (fun w' : World => w'.cell? ⟨Fb, 0, none⟩ = some (.slice (some ⟨bc, oc, none⟩) N cc) ∧ w'.cell? ⟨Fb, 1, none⟩ = some (.slice (some ⟨gs, 0, none⟩) N N) ∧ w'.cell? ⟨bc, oc + k * 4, none⟩ = some (.int .i64 2) ∧ w'.cell? ⟨bc, oc + k * 4 + 1, none⟩ = some (.int .i64 a) ∧ w'.cell? ⟨bc, oc + k * 4 + 2, none⟩ = some (.int .i64 b) ∧ w'.cell? ⟨bc, oc + k * 4 + 3, none⟩ = some (.int .i64 c) ∧ w'.cell? ⟨gs, k * 3, none⟩ = some (.int .i64 n) ∧ w'.cell? ⟨gs, k * 3 + 1, none⟩ = some (.int .i64 v) ∧ w'.cell? ⟨gs, k * 3 + 2, none⟩ = some (.int .i64 p))) (by kernel_rfl) rfl rfl ?_
  refine pick_op (i := 0) (v := .pointer (some ⟨Fb, 0, none⟩)) (by kernel_rfl) rfl (by kernel_rfl) (by kernel_rfl) rfl rfl (fun w' _ => by simp [go_sem]) hS (by simp [go_sem]; exact rfl) ?_
  refine pick_op (i := 1) (v := .pointer (some ⟨Fb, 0, none⟩)) (by kernel_rfl) rfl (by kernel_rfl) (by kernel_rfl) rfl rfl (fun w' _ => by simp [go_sem]) hS (by simp [go_sem]; exact rfl) ?_
  refine pick_op (i := 2) (v := .pointer (some ⟨Fb, 0, none⟩)) (by kernel_rfl) rfl (by kernel_rfl) (by kernel_rfl) rfl rfl (fun w' _ => by simp [go_sem]) hS (by simp [go_sem]; exact rfl) ?_
  refine pick_op (i := 3) (v := .slice (some ⟨bc, oc, none⟩) N cc) (by kernel_rfl) rfl (by kernel_rfl) (by kernel_rfl) rfl rfl (fun w' h => by simp [go_sem, h.1]) hS (by simp [go_sem]; exact rfl) ?_
  refine pick_op (i := 4) (v := .int .i64 (k : Int)) (by kernel_rfl) rfl (by kernel_rfl) (by kernel_rfl) rfl rfl (fun w' _ => by simp [go_sem]) hS (by simp [go_sem]; exact rfl) ?_
  refine pick_op (i := 5) (v := .pointer (some ⟨bc, oc + k * 4, none⟩)) (by kernel_rfl) rfl (by kernel_rfl) (by kernel_rfl) rfl rfl (fun w' _ => by simp [go_sem, hk0, hk1]) hS (by simp [go_sem]; exact rfl) ?_
  refine pick_op (i := 6) (v := .agg #[.int .i64 2, .int .i64 a, .int .i64 b, .int .i64 c]) (by kernel_rfl) rfl (by kernel_rfl) (by kernel_rfl) rfl rfl (fun w' h => by simp [go_sem, h.2.2.1, h.2.2.2.1, h.2.2.2.2.1, h.2.2.2.2.2.1]) hS (by simp [go_sem]; exact rfl) ?_
  refine pick_op (i := 7) (v := .pointer (some ⟨Fb, 0, none⟩)) (by kernel_rfl) rfl (by kernel_rfl) (by kernel_rfl) rfl rfl (fun w' _ => by simp [go_sem]) hS (by simp [go_sem]; exact rfl) ?_
  refine pick_op (i := 8) (v := .pointer (some ⟨Fb, 0, none⟩)) (by kernel_rfl) rfl (by kernel_rfl) (by kernel_rfl) rfl rfl (fun w' _ => by simp [go_sem]) hS (by simp [go_sem]; exact rfl) ?_
  refine pick_op (i := 9) (v := .pointer (some ⟨Fb, 1, none⟩)) (by kernel_rfl) rfl (by kernel_rfl) (by kernel_rfl) rfl rfl (fun w' _ => by simp [go_sem]) hS (by simp [go_sem]; exact rfl) ?_
  refine pick_op (i := 10) (v := .slice (some ⟨gs, 0, none⟩) N N) (by kernel_rfl) rfl (by kernel_rfl) (by kernel_rfl) rfl rfl (fun w' h => by simp [go_sem, h.2.1]) hS (by simp [go_sem]; exact rfl) ?_
  refine pick_op (i := 11) (v := .int .i64 (k : Int)) (by kernel_rfl) rfl (by kernel_rfl) (by kernel_rfl) rfl rfl (fun w' _ => by simp [go_sem]) hS (by simp [go_sem]; exact rfl) ?_
  refine pick_op (i := 12) (v := .pointer (some ⟨gs, k * 3, none⟩)) (by kernel_rfl) rfl (by kernel_rfl) (by kernel_rfl) rfl rfl (fun w' _ => by simp [go_sem, hk0, hk1]) hS (by simp [go_sem]; exact rfl) ?_
  refine pick_op (i := 13) (v := .agg #[.int .i64 n, .int .i64 v, .int .i64 p]) (by kernel_rfl) rfl (by kernel_rfl) (by kernel_rfl) rfl rfl (fun w' h => by simp [go_sem, h.2.2.2.2.2.2.1, h.2.2.2.2.2.2.2.1, h.2.2.2.2.2.2.2.2]) hS (by simp [go_sem]; exact rfl) ?_
  refine pick_op (i := 14) (v := .int .i64 (k : Int)) (by kernel_rfl) rfl (by kernel_rfl) (by kernel_rfl) rfl rfl (fun w' _ => by simp [go_sem]) hS (by simp [go_sem]; exact rfl) ?_
  refine pick_op (i := 15) (v := .int .i64 ((k : Int) + 1)) (by kernel_rfl) rfl (by kernel_rfl) (by kernel_rfl) rfl rfl (fun w' _ => by simp [go_sem]; exact (IntWalk.i64_left _).trans w1) hS (by simp [go_sem]; exact rfl) ?_
  refine pick_fork (i := 16) (j := 17) (by kernel_rfl) ?_ ?_
  · have hB1 : Below W.heap.size W (W.drew.alloc (.cells #[.int .i64 0, .int .i64 0, .int .i64 0, .int .i64 0] 31)) := hD.alloc hD.size _
    have hB2 : Below W.heap.size W ((W.drew.alloc (.cells #[.int .i64 0, .int .i64 0, .int .i64 0, .int .i64 0] 31)).alloc (.cells #[.int .i64 0, .int .i64 0, .int .i64 0] 43)) := hB1.alloc hB1.size _
    refine ⟨_, .pointer (some ⟨W.heap.size, 0, none⟩), (W.drew.alloc (.cells #[.int .i64 0, .int .i64 0, .int .i64 0, .int .i64 0] 31)), rfl, rfl, by simp [go_sem], HCl.out _ hB1, ?_⟩
    refine pick_frame (by simp [go_sem]; exact rfl) ?_
    refine pick_make (i := 17) (v := .pointer (some ⟨W.heap.size + 1, 0, none⟩)) (w1 := ((W.drew.alloc (.cells #[.int .i64 0, .int .i64 0, .int .i64 0, .int .i64 0] 31)).alloc (.cells #[.int .i64 0, .int .i64 0, .int .i64 0] 43))) rfl (by kernel_rfl) rfl rfl (by simp [go_sem]) (HCl.out _ hB2) (by simp [go_sem]; exact rfl) ?_
    have g5 : ((W.drew.alloc (.cells #[.int .i64 0, .int .i64 0, .int .i64 0, .int .i64 0] 31)).alloc (.cells #[.int .i64 0, .int .i64 0, .int .i64 0] 43)).heap[W.heap.size]? = some (.cells #[.int .i64 0, .int .i64 0, .int .i64 0, .int .i64 0] 31) := (two_new W.drew _ _).1
    have g6 : ((W.drew.alloc (.cells #[.int .i64 0, .int .i64 0, .int .i64 0, .int .i64 0] 31)).alloc (.cells #[.int .i64 0, .int .i64 0, .int .i64 0] 43)).heap[W.heap.size + 1]? = some (.cells #[.int .i64 0, .int .i64 0, .int .i64 0] 43) := (two_new W.drew _ _).2
    have HBx := hid (boxed hB2 g5 g6 (by omega) (by omega) 2 a b c n v p)
    have HB4 : Hid (Below W.heap.size W (put4 ((W.drew.alloc (.cells #[.int .i64 0, .int .i64 0, .int .i64 0, .int .i64 0] 31)).alloc (.cells #[.int .i64 0, .int .i64 0, .int .i64 0] 43)) (W.heap.size) (.int .i64 2) (.int .i64 a) (.int .i64 b) (.int .i64 c))) := by
      obtain ⟨p1, p2, p3, p4, p5, p6⟩ := put4_is g5 (.int .i64 2) (.int .i64 a) (.int .i64 b) (.int .i64 c)
      exact ⟨p4.trans hB2.os, p5.trans hB2.tape, p6.trans hB2.output, by rw [p3]; exact hB2.size, fun q hq => (p2 q (by omega)).trans (hB2.block q hq)⟩
    refine pick_skip (i := 18) rfl (w1 := put4 ((W.drew.alloc (.cells #[.int .i64 0, .int .i64 0, .int .i64 0, .int .i64 0] 31)).alloc (.cells #[.int .i64 0, .int .i64 0, .int .i64 0] 43)) (W.heap.size) (.int .i64 2) (.int .i64 a) (.int .i64 b) (.int .i64 c)) rfl (by kernel_rfl) rfl rfl (by simp [go_sem, put4]) (HCl.out _ HB4.out) ?_
    refine pick_skip (i := 19) rfl (w1 := put3 (put4 ((W.drew.alloc (.cells #[.int .i64 0, .int .i64 0, .int .i64 0, .int .i64 0] 31)).alloc (.cells #[.int .i64 0, .int .i64 0, .int .i64 0] 43)) (W.heap.size) (.int .i64 2) (.int .i64 a) (.int .i64 b) (.int .i64 c)) (W.heap.size + 1) (.int .i64 n) (.int .i64 v) (.int .i64 p)) rfl (by kernel_rfl) rfl rfl (by simp [go_sem, put4, put3]) (HCl.out _ HBx.out.bel) ?_
    refine pick_make (i := 20) (v := .int .i64 ((k : Int) + 1)) (w1 := put3 (put4 ((W.drew.alloc (.cells #[.int .i64 0, .int .i64 0, .int .i64 0, .int .i64 0] 31)).alloc (.cells #[.int .i64 0, .int .i64 0, .int .i64 0] 43)) (W.heap.size) (.int .i64 2) (.int .i64 a) (.int .i64 b) (.int .i64 c)) (W.heap.size + 1) (.int .i64 n) (.int .i64 v) (.int .i64 p)) rfl (by kernel_rfl) rfl rfl (by simp [go_sem]) (HCl.out _ HBx.out.bel) (by simp [go_sem]; exact rfl) ?_
    refine pick_end (by kernel_rfl) ?_
    obtain ⟨X, hX⟩ : ∃ X, put3 (put4 ((W.drew.alloc (.cells #[.int .i64 0, .int .i64 0, .int .i64 0, .int .i64 0] 31)).alloc (.cells #[.int .i64 0, .int .i64 0, .int .i64 0] 43)) (W.heap.size) (.int .i64 2) (.int .i64 a) (.int .i64 b) (.int .i64 c)) (W.heap.size + 1) (.int .i64 n) (.int .i64 v) (.int .i64 p) = X := ⟨_, rfl⟩
    rw [hX] at HBx ⊢
    obtain ⟨b5, hb5⟩ : ∃ x, W.heap.size = x := ⟨_, rfl⟩
    obtain ⟨b6, hb6⟩ : ∃ x, W.heap.size + 1 = x := ⟨_, rfl⟩
    rw [hb6] at HBx ⊢
    rw [hb5] at HBx ⊢
    clear hX hb5 hb6 g5 g6 hB1 hB2 HB4 hS HCl hD
    clear f0 f1 f2 f3 f4 f5 f6 f7 f8
    have i0 := cell_of_heap HBx.out.i 0
    have i1 := cell_of_heap HBx.out.i 1
    have i3 := cell_of_heap HBx.out.i 3
    have s0 := cell_of_heap HBx.out.s 0
    have s1 := cell_of_heap HBx.out.s 1
    have s2 := cell_of_heap HBx.out.s 2
    simp at i0 i1 i3 s0 s1 s2
    go_wp2_with fail
    refine (more_calls n v p (0) (1) _ (by have := HM.out; rw [wrap64]; omega) (by have := HM.out; rw [wrap64]; omega)).mono ?_
    rintro e X2 ⟨rfl, hb2⟩
    have HB2 := hid (HBx.out.bel.trans (hb2.mono HBx.out.bel.size))
    clear hb2 i0 i1 i3 s0 s1 s2 HBx
    go_wp2_with fail
    go_ret
    rw [HX.out]
    exact exits_one HB2.out (by first | rfl | simp)
  · have hB1 : Below W.heap.size W (W.drew.alloc (.cells #[.int .i64 0, .int .i64 0, .int .i64 0] 43)) := hD.alloc hD.size _
    have hB2 : Below W.heap.size W ((W.drew.alloc (.cells #[.int .i64 0, .int .i64 0, .int .i64 0] 43)).alloc (.cells #[.int .i64 0, .int .i64 0, .int .i64 0, .int .i64 0] 31)) := hB1.alloc hB1.size _
    refine ⟨_, .pointer (some ⟨W.heap.size, 0, none⟩), (W.drew.alloc (.cells #[.int .i64 0, .int .i64 0, .int .i64 0] 43)), rfl, rfl, by simp [go_sem], HCl.out _ hB1, ?_⟩
    refine pick_frame (by simp [go_sem]; exact rfl) ?_
    refine pick_make (i := 16) (v := .pointer (some ⟨W.heap.size + 1, 0, none⟩)) (w1 := ((W.drew.alloc (.cells #[.int .i64 0, .int .i64 0, .int .i64 0] 43)).alloc (.cells #[.int .i64 0, .int .i64 0, .int .i64 0, .int .i64 0] 31))) rfl (by kernel_rfl) rfl rfl (by simp [go_sem]) (HCl.out _ hB2) (by simp [go_sem]; exact rfl) ?_
    have g5 : ((W.drew.alloc (.cells #[.int .i64 0, .int .i64 0, .int .i64 0] 43)).alloc (.cells #[.int .i64 0, .int .i64 0, .int .i64 0, .int .i64 0] 31)).heap[W.heap.size + 1]? = some (.cells #[.int .i64 0, .int .i64 0, .int .i64 0, .int .i64 0] 31) := (two_new W.drew _ _).2
    have g6 : ((W.drew.alloc (.cells #[.int .i64 0, .int .i64 0, .int .i64 0] 43)).alloc (.cells #[.int .i64 0, .int .i64 0, .int .i64 0, .int .i64 0] 31)).heap[W.heap.size]? = some (.cells #[.int .i64 0, .int .i64 0, .int .i64 0] 43) := (two_new W.drew _ _).1
    have HBx := hid (boxed hB2 g5 g6 (by omega) (by omega) 2 a b c n v p)
    have HB4 : Hid (Below W.heap.size W (put4 ((W.drew.alloc (.cells #[.int .i64 0, .int .i64 0, .int .i64 0] 43)).alloc (.cells #[.int .i64 0, .int .i64 0, .int .i64 0, .int .i64 0] 31)) (W.heap.size + 1) (.int .i64 2) (.int .i64 a) (.int .i64 b) (.int .i64 c))) := by
      obtain ⟨p1, p2, p3, p4, p5, p6⟩ := put4_is g5 (.int .i64 2) (.int .i64 a) (.int .i64 b) (.int .i64 c)
      exact ⟨p4.trans hB2.os, p5.trans hB2.tape, p6.trans hB2.output, by rw [p3]; exact hB2.size, fun q hq => (p2 q (by omega)).trans (hB2.block q hq)⟩
    refine pick_skip (i := 18) rfl (w1 := put4 ((W.drew.alloc (.cells #[.int .i64 0, .int .i64 0, .int .i64 0] 43)).alloc (.cells #[.int .i64 0, .int .i64 0, .int .i64 0, .int .i64 0] 31)) (W.heap.size + 1) (.int .i64 2) (.int .i64 a) (.int .i64 b) (.int .i64 c)) rfl (by kernel_rfl) rfl rfl (by simp [go_sem, put4]) (HCl.out _ HB4.out) ?_
    refine pick_skip (i := 19) rfl (w1 := put3 (put4 ((W.drew.alloc (.cells #[.int .i64 0, .int .i64 0, .int .i64 0] 43)).alloc (.cells #[.int .i64 0, .int .i64 0, .int .i64 0, .int .i64 0] 31)) (W.heap.size + 1) (.int .i64 2) (.int .i64 a) (.int .i64 b) (.int .i64 c)) (W.heap.size) (.int .i64 n) (.int .i64 v) (.int .i64 p)) rfl (by kernel_rfl) rfl rfl (by simp [go_sem, put4, put3]) (HCl.out _ HBx.out.bel) ?_
    refine pick_make (i := 20) (v := .int .i64 ((k : Int) + 1)) (w1 := put3 (put4 ((W.drew.alloc (.cells #[.int .i64 0, .int .i64 0, .int .i64 0] 43)).alloc (.cells #[.int .i64 0, .int .i64 0, .int .i64 0, .int .i64 0] 31)) (W.heap.size + 1) (.int .i64 2) (.int .i64 a) (.int .i64 b) (.int .i64 c)) (W.heap.size) (.int .i64 n) (.int .i64 v) (.int .i64 p)) rfl (by kernel_rfl) rfl rfl (by simp [go_sem]) (HCl.out _ HBx.out.bel) (by simp [go_sem]; exact rfl) ?_
    refine pick_end (by kernel_rfl) ?_
    obtain ⟨X, hX⟩ : ∃ X, put3 (put4 ((W.drew.alloc (.cells #[.int .i64 0, .int .i64 0, .int .i64 0] 43)).alloc (.cells #[.int .i64 0, .int .i64 0, .int .i64 0, .int .i64 0] 31)) (W.heap.size + 1) (.int .i64 2) (.int .i64 a) (.int .i64 b) (.int .i64 c)) (W.heap.size) (.int .i64 n) (.int .i64 v) (.int .i64 p) = X := ⟨_, rfl⟩
    rw [hX] at HBx ⊢
    obtain ⟨b5, hb5⟩ : ∃ x, W.heap.size + 1 = x := ⟨_, rfl⟩
    obtain ⟨b6, hb6⟩ : ∃ x, W.heap.size = x := ⟨_, rfl⟩
    rw [hb5] at HBx ⊢
    rw [hb6] at HBx ⊢
    clear hX hb5 hb6 g5 g6 hB1 hB2 HB4 hS HCl hD
    clear f0 f1 f2 f3 f4 f5 f6 f7 f8
    have i0 := cell_of_heap HBx.out.i 0
    have i1 := cell_of_heap HBx.out.i 1
    have i3 := cell_of_heap HBx.out.i 3
    have s0 := cell_of_heap HBx.out.s 0
    have s1 := cell_of_heap HBx.out.s 1
    have s2 := cell_of_heap HBx.out.s 2
    simp at i0 i1 i3 s0 s1 s2
    go_wp2_with fail
    refine (more_calls n v p (0) (1) _ (by have := HM.out; rw [wrap64]; omega) (by have := HM.out; rw [wrap64]; omega)).mono ?_
    rintro e X2 ⟨rfl, hb2⟩
    have HB2 := hid (HBx.out.bel.trans (hb2.mono HBx.out.bel.size))
    clear hb2 i0 i1 i3 s0 s1 s2 HBx
    go_wp2_with fail
    go_ret
    rw [HX.out]
    exact exits_one HB2.out (by first | rfl | simp)

set_option maxRecDepth 100000 in
set_option maxHeartbeats 8000000 in
theorem exits_3 {W : World} {Fb bc oc cc gs N k : Nat} {is : List In} {a b c n v p : Int} (hk0 : (0 : Int) ≤ (k : Int)) (hk1 : (k : Int) < (N : Int)) (hkN : k ≤ 1500) (hn0 : 0 ≤ n) (hn1 : n ≤ 100) (hv0 : 0 ≤ v) (hv1 : v ≤ 100) (f0 : W.cell? ⟨Fb, 0, none⟩ = some (.slice (some ⟨bc, oc, none⟩) N cc)) (f1 : W.cell? ⟨Fb, 1, none⟩ = some (.slice (some ⟨gs, 0, none⟩) N N)) (f2 : W.cell? ⟨bc, oc + k * 4, none⟩ = some (.int .i64 3)) (f3 : W.cell? ⟨bc, oc + k * 4 + 1, none⟩ = some (.int .i64 a)) (f4 : W.cell? ⟨bc, oc + k * 4 + 2, none⟩ = some (.int .i64 b)) (f5 : W.cell? ⟨bc, oc + k * 4 + 3, none⟩ = some (.int .i64 c)) (f6 : W.cell? ⟨gs, k * 3, none⟩ = some (.int .i64 n)) (f7 : W.cell? ⟨gs, k * 3 + 1, none⟩ = some (.int .i64 v)) (f8 : W.cell? ⟨gs, k * 3 + 2, none⟩ = some (.int .i64 p)) :
    Calls Tryz.prog 36 #[.pointer (some ⟨Fb, 0, none⟩), .int .i64 (k : Int)] W (ExitsP (exitsZ is k ⟨3, a, b, c⟩ ⟨n, v, p⟩) W) := by
  have hexz : exitsZ is k ⟨3, a, b, c⟩ ⟨n, v, p⟩ = [((k : Int) + 1, (⟨n + 0, v + 1, p⟩ : Sq))] := by simp [exitsZ, Sq.more]
  have HX := hid hexz
  clear hexz
  have w1 : wrap64 ((k : Int) + 1) = (k : Int) + 1 := by rw [wrap64]; omega
  have w2 : wrap64 (n + 1) = n + 1 := by rw [wrap64]; omega
  have w3 : wrap64 (n + 2) = n + 2 := by rw [wrap64]; omega
  have HM : Hid (0 ≤ n ∧ n ≤ 100 ∧ 0 ≤ v ∧ v ≤ 100) := ⟨hn0, hn1, hv0, hv1⟩
  clear hn0 hn1 hv0 hv1 hkN
  go_enter Tryz.func36, Tryz.ntmps36
  go_wp2_with fail
  have hD : Below W.heap.size W W.drew := (Below.refl _ _).drew
  have HCl : Hid (∀ X, Below W.heap.size W X → (fun w' : World => w'.cell? ⟨Fb, 0, none⟩ = some (.slice (some ⟨bc, oc, none⟩) N cc) ∧ w'.cell? ⟨Fb, 1, none⟩ = some (.slice (some ⟨gs, 0, none⟩) N N) ∧ w'.cell? ⟨bc, oc + k * 4, none⟩ = some (.int .i64 3) ∧ w'.cell? ⟨bc, oc + k * 4 + 1, none⟩ = some (.int .i64 a) ∧ w'.cell? ⟨bc, oc + k * 4 + 2, none⟩ = some (.int .i64 b) ∧ w'.cell? ⟨bc, oc + k * 4 + 3, none⟩ = some (.int .i64 c) ∧ w'.cell? ⟨gs, k * 3, none⟩ = some (.int .i64 n) ∧ w'.cell? ⟨gs, k * 3 + 1, none⟩ = some (.int .i64 v) ∧ w'.cell? ⟨gs, k * 3 + 2, none⟩ = some (.int .i64 p)) X) := fun X hX => ⟨(hX.cell (block_in0 f0)).trans f0, (hX.cell (block_in0 f1)).trans f1, (hX.cell (block_in0 f2)).trans f2, (hX.cell (block_in0 f3)).trans f3, (hX.cell (block_in0 f4)).trans f4, (hX.cell (block_in0 f5)).trans f5, (hX.cell (block_in0 f6)).trans f6, (hX.cell (block_in0 f7)).trans f7, (hX.cell (block_in0 f8)).trans f8⟩
  have hS := HCl.out W.drew hD
  refine pick_begin (S := (fun w' : World => w'.cell? ⟨Fb, 0, none⟩ = some (.slice (some ⟨bc, oc, none⟩) N cc) ∧ w'.cell? ⟨Fb, 1, none⟩ = some (.slice (some ⟨gs, 0, none⟩) N N) ∧ w'.cell? ⟨bc, oc + k * 4, none⟩ = some (.int .i64 3) ∧ w'.cell? ⟨bc, oc + k * 4 + 1, none⟩ = some (.int .i64 a) ∧ w'.cell? ⟨bc, oc + k * 4 + 2, none⟩ = some (.int .i64 b) ∧ w'.cell? ⟨bc, oc + k * 4 + 3, none⟩ = some (.int .i64 c) ∧ w'.cell? ⟨gs, k * 3, none⟩ = some (.int .i64 n) ∧ w'.cell? ⟨gs, k * 3 + 1, none⟩ = some (.int .i64 v) ∧ w'.cell? ⟨gs, k * 3 + 2, none⟩ = some (.int .i64 p))) (by kernel_rfl) rfl rfl ?_
  refine pick_op (i := 0) (v := .pointer (some ⟨Fb, 0, none⟩)) (by kernel_rfl) rfl (by kernel_rfl) (by kernel_rfl) rfl rfl (fun w' _ => by simp [go_sem]) hS (by simp [go_sem]; exact rfl) ?_
  refine pick_op (i := 1) (v := .pointer (some ⟨Fb, 0, none⟩)) (by kernel_rfl) rfl (by kernel_rfl) (by kernel_rfl) rfl rfl (fun w' _ => by simp [go_sem]) hS (by simp [go_sem]; exact rfl) ?_
  refine pick_op (i := 2) (v := .pointer (some ⟨Fb, 0, none⟩)) (by kernel_rfl) rfl (by kernel_rfl) (by kernel_rfl) rfl rfl (fun w' _ => by simp [go_sem]) hS (by simp [go_sem]; exact rfl) ?_
  refine pick_op (i := 3) (v := .slice (some ⟨bc, oc, none⟩) N cc) (by kernel_rfl) rfl (by kernel_rfl) (by kernel_rfl) rfl rfl (fun w' h => by simp [go_sem, h.1]) hS (by simp [go_sem]; exact rfl) ?_
  refine pick_op (i := 4) (v := .int .i64 (k : Int)) (by kernel_rfl) rfl (by kernel_rfl) (by kernel_rfl) rfl rfl (fun w' _ => by simp [go_sem]) hS (by simp [go_sem]; exact rfl) ?_
  refine pick_op (i := 5) (v := .pointer (some ⟨bc, oc + k * 4, none⟩)) (by kernel_rfl) rfl (by kernel_rfl) (by kernel_rfl) rfl rfl (fun w' _ => by simp [go_sem, hk0, hk1]) hS (by simp [go_sem]; exact rfl) ?_
  refine pick_op (i := 6) (v := .agg #[.int .i64 3, .int .i64 a, .int .i64 b, .int .i64 c]) (by kernel_rfl) rfl (by kernel_rfl) (by kernel_rfl) rfl rfl (fun w' h => by simp [go_sem, h.2.2.1, h.2.2.2.1, h.2.2.2.2.1, h.2.2.2.2.2.1]) hS (by simp [go_sem]; exact rfl) ?_
  refine pick_op (i := 7) (v := .pointer (some ⟨Fb, 0, none⟩)) (by kernel_rfl) rfl (by kernel_rfl) (by kernel_rfl) rfl rfl (fun w' _ => by simp [go_sem]) hS (by simp [go_sem]; exact rfl) ?_
  refine pick_op (i := 8) (v := .pointer (some ⟨Fb, 0, none⟩)) (by kernel_rfl) rfl (by kernel_rfl) (by kernel_rfl) rfl rfl (fun w' _ => by simp [go_sem]) hS (by simp [go_sem]; exact rfl) ?_
  refine pick_op (i := 9) (v := .pointer (some ⟨Fb, 1, none⟩)) (by kernel_rfl) rfl (by kernel_rfl) (by kernel_rfl) rfl rfl (fun w' _ => by simp [go_sem]) hS (by simp [go_sem]; exact rfl) ?_
  refine pick_op (i := 10) (v := .slice (some ⟨gs, 0, none⟩) N N) (by kernel_rfl) rfl (by kernel_rfl) (by kernel_rfl) rfl rfl (fun w' h => by simp [go_sem, h.2.1]) hS (by simp [go_sem]; exact rfl) ?_
  refine pick_op (i := 11) (v := .int .i64 (k : Int)) (by kernel_rfl) rfl (by kernel_rfl) (by kernel_rfl) rfl rfl (fun w' _ => by simp [go_sem]) hS (by simp [go_sem]; exact rfl) ?_
  refine pick_op (i := 12) (v := .pointer (some ⟨gs, k * 3, none⟩)) (by kernel_rfl) rfl (by kernel_rfl) (by kernel_rfl) rfl rfl (fun w' _ => by simp [go_sem, hk0, hk1]) hS (by simp [go_sem]; exact rfl) ?_
  refine pick_op (i := 13) (v := .agg #[.int .i64 n, .int .i64 v, .int .i64 p]) (by kernel_rfl) rfl (by kernel_rfl) (by kernel_rfl) rfl rfl (fun w' h => by simp [go_sem, h.2.2.2.2.2.2.1, h.2.2.2.2.2.2.2.1, h.2.2.2.2.2.2.2.2]) hS (by simp [go_sem]; exact rfl) ?_
  refine pick_op (i := 14) (v := .int .i64 (k : Int)) (by kernel_rfl) rfl (by kernel_rfl) (by kernel_rfl) rfl rfl (fun w' _ => by simp [go_sem]) hS (by simp [go_sem]; exact rfl) ?_
  refine pick_op (i := 15) (v := .int .i64 ((k : Int) + 1)) (by kernel_rfl) rfl (by kernel_rfl) (by kernel_rfl) rfl rfl (fun w' _ => by simp [go_sem]; exact (IntWalk.i64_left _).trans w1) hS (by simp [go_sem]; exact rfl) ?_
  refine pick_fork (i := 16) (j := 17) (by kernel_rfl) ?_ ?_
  · have hB1 : Below W.heap.size W (W.drew.alloc (.cells #[.int .i64 0, .int .i64 0, .int .i64 0, .int .i64 0] 31)) := hD.alloc hD.size _
    have hB2 : Below W.heap.size W ((W.drew.alloc (.cells #[.int .i64 0, .int .i64 0, .int .i64 0, .int .i64 0] 31)).alloc (.cells #[.int .i64 0, .int .i64 0, .int .i64 0] 43)) := hB1.alloc hB1.size _
    refine ⟨_, .pointer (some ⟨W.heap.size, 0, none⟩), (W.drew.alloc (.cells #[.int .i64 0, .int .i64 0, .int .i64 0, .int .i64 0] 31)), rfl, rfl, by simp [go_sem], HCl.out _ hB1, ?_⟩
    refine pick_frame (by simp [go_sem]; exact rfl) ?_
    refine pick_make (i := 17) (v := .pointer (some ⟨W.heap.size + 1, 0, none⟩)) (w1 := ((W.drew.alloc (.cells #[.int .i64 0, .int .i64 0, .int .i64 0, .int .i64 0] 31)).alloc (.cells #[.int .i64 0, .int .i64 0, .int .i64 0] 43))) rfl (by kernel_rfl) rfl rfl (by simp [go_sem]) (HCl.out _ hB2) (by simp [go_sem]; exact rfl) ?_
    have g5 : ((W.drew.alloc (.cells #[.int .i64 0, .int .i64 0, .int .i64 0, .int .i64 0] 31)).alloc (.cells #[.int .i64 0, .int .i64 0, .int .i64 0] 43)).heap[W.heap.size]? = some (.cells #[.int .i64 0, .int .i64 0, .int .i64 0, .int .i64 0] 31) := (two_new W.drew _ _).1
    have g6 : ((W.drew.alloc (.cells #[.int .i64 0, .int .i64 0, .int .i64 0, .int .i64 0] 31)).alloc (.cells #[.int .i64 0, .int .i64 0, .int .i64 0] 43)).heap[W.heap.size + 1]? = some (.cells #[.int .i64 0, .int .i64 0, .int .i64 0] 43) := (two_new W.drew _ _).2
    have HBx := hid (boxed hB2 g5 g6 (by omega) (by omega) 3 a b c n v p)
    have HB4 : Hid (Below W.heap.size W (put4 ((W.drew.alloc (.cells #[.int .i64 0, .int .i64 0, .int .i64 0, .int .i64 0] 31)).alloc (.cells #[.int .i64 0, .int .i64 0, .int .i64 0] 43)) (W.heap.size) (.int .i64 3) (.int .i64 a) (.int .i64 b) (.int .i64 c))) := by
      obtain ⟨p1, p2, p3, p4, p5, p6⟩ := put4_is g5 (.int .i64 3) (.int .i64 a) (.int .i64 b) (.int .i64 c)
      exact ⟨p4.trans hB2.os, p5.trans hB2.tape, p6.trans hB2.output, by rw [p3]; exact hB2.size, fun q hq => (p2 q (by omega)).trans (hB2.block q hq)⟩
    refine pick_skip (i := 18) rfl (w1 := put4 ((W.drew.alloc (.cells #[.int .i64 0, .int .i64 0, .int .i64 0, .int .i64 0] 31)).alloc (.cells #[.int .i64 0, .int .i64 0, .int .i64 0] 43)) (W.heap.size) (.int .i64 3) (.int .i64 a) (.int .i64 b) (.int .i64 c)) rfl (by kernel_rfl) rfl rfl (by simp [go_sem, put4]) (HCl.out _ HB4.out) ?_
    refine pick_skip (i := 19) rfl (w1 := put3 (put4 ((W.drew.alloc (.cells #[.int .i64 0, .int .i64 0, .int .i64 0, .int .i64 0] 31)).alloc (.cells #[.int .i64 0, .int .i64 0, .int .i64 0] 43)) (W.heap.size) (.int .i64 3) (.int .i64 a) (.int .i64 b) (.int .i64 c)) (W.heap.size + 1) (.int .i64 n) (.int .i64 v) (.int .i64 p)) rfl (by kernel_rfl) rfl rfl (by simp [go_sem, put4, put3]) (HCl.out _ HBx.out.bel) ?_
    refine pick_make (i := 20) (v := .int .i64 ((k : Int) + 1)) (w1 := put3 (put4 ((W.drew.alloc (.cells #[.int .i64 0, .int .i64 0, .int .i64 0, .int .i64 0] 31)).alloc (.cells #[.int .i64 0, .int .i64 0, .int .i64 0] 43)) (W.heap.size) (.int .i64 3) (.int .i64 a) (.int .i64 b) (.int .i64 c)) (W.heap.size + 1) (.int .i64 n) (.int .i64 v) (.int .i64 p)) rfl (by kernel_rfl) rfl rfl (by simp [go_sem]) (HCl.out _ HBx.out.bel) (by simp [go_sem]; exact rfl) ?_
    refine pick_end (by kernel_rfl) ?_
    obtain ⟨X, hX⟩ : ∃ X, put3 (put4 ((W.drew.alloc (.cells #[.int .i64 0, .int .i64 0, .int .i64 0, .int .i64 0] 31)).alloc (.cells #[.int .i64 0, .int .i64 0, .int .i64 0] 43)) (W.heap.size) (.int .i64 3) (.int .i64 a) (.int .i64 b) (.int .i64 c)) (W.heap.size + 1) (.int .i64 n) (.int .i64 v) (.int .i64 p) = X := ⟨_, rfl⟩
    rw [hX] at HBx ⊢
    obtain ⟨b5, hb5⟩ : ∃ x, W.heap.size = x := ⟨_, rfl⟩
    obtain ⟨b6, hb6⟩ : ∃ x, W.heap.size + 1 = x := ⟨_, rfl⟩
    rw [hb6] at HBx ⊢
    rw [hb5] at HBx ⊢
    clear hX hb5 hb6 g5 g6 hB1 hB2 HB4 hS HCl hD
    clear f0 f1 f2 f3 f4 f5 f6 f7 f8
    have i0 := cell_of_heap HBx.out.i 0
    have i1 := cell_of_heap HBx.out.i 1
    have i3 := cell_of_heap HBx.out.i 3
    have s0 := cell_of_heap HBx.out.s 0
    have s1 := cell_of_heap HBx.out.s 1
    have s2 := cell_of_heap HBx.out.s 2
    simp at i0 i1 i3 s0 s1 s2
    go_wp2_with fail
    refine (more_calls n v p (0) (1) _ (by have := HM.out; rw [wrap64]; omega) (by have := HM.out; rw [wrap64]; omega)).mono ?_
    rintro e X2 ⟨rfl, hb2⟩
    have HB2 := hid (HBx.out.bel.trans (hb2.mono HBx.out.bel.size))
    clear hb2 i0 i1 i3 s0 s1 s2 HBx
    go_wp2_with fail
    go_ret
    rw [HX.out]
    exact exits_one HB2.out (by first | rfl | simp)
  · have hB1 : Below W.heap.size W (W.drew.alloc (.cells #[.int .i64 0, .int .i64 0, .int .i64 0] 43)) := hD.alloc hD.size _
    have hB2 : Below W.heap.size W ((W.drew.alloc (.cells #[.int .i64 0, .int .i64 0, .int .i64 0] 43)).alloc (.cells #[.int .i64 0, .int .i64 0, .int .i64 0, .int .i64 0] 31)) := hB1.alloc hB1.size _
    refine ⟨_, .pointer (some ⟨W.heap.size, 0, none⟩), (W.drew.alloc (.cells #[.int .i64 0, .int .i64 0, .int .i64 0] 43)), rfl, rfl, by simp [go_sem], HCl.out _ hB1, ?_⟩
    refine pick_frame (by simp [go_sem]; exact rfl) ?_
    refine pick_make (i := 16) (v := .pointer (some ⟨W.heap.size + 1, 0, none⟩)) (w1 := ((W.drew.alloc (.cells #[.int .i64 0, .int .i64 0, .int .i64 0] 43)).alloc (.cells #[.int .i64 0, .int .i64 0, .int .i64 0, .int .i64 0] 31))) rfl (by kernel_rfl) rfl rfl (by simp [go_sem]) (HCl.out _ hB2) (by simp [go_sem]; exact rfl) ?_
    have g5 : ((W.drew.alloc (.cells #[.int .i64 0, .int .i64 0, .int .i64 0] 43)).alloc (.cells #[.int .i64 0, .int .i64 0, .int .i64 0, .int .i64 0] 31)).heap[W.heap.size + 1]? = some (.cells #[.int .i64 0, .int .i64 0, .int .i64 0, .int .i64 0] 31) := (two_new W.drew _ _).2
    have g6 : ((W.drew.alloc (.cells #[.int .i64 0, .int .i64 0, .int .i64 0] 43)).alloc (.cells #[.int .i64 0, .int .i64 0, .int .i64 0, .int .i64 0] 31)).heap[W.heap.size]? = some (.cells #[.int .i64 0, .int .i64 0, .int .i64 0] 43) := (two_new W.drew _ _).1
    have HBx := hid (boxed hB2 g5 g6 (by omega) (by omega) 3 a b c n v p)
    have HB4 : Hid (Below W.heap.size W (put4 ((W.drew.alloc (.cells #[.int .i64 0, .int .i64 0, .int .i64 0] 43)).alloc (.cells #[.int .i64 0, .int .i64 0, .int .i64 0, .int .i64 0] 31)) (W.heap.size + 1) (.int .i64 3) (.int .i64 a) (.int .i64 b) (.int .i64 c))) := by
      obtain ⟨p1, p2, p3, p4, p5, p6⟩ := put4_is g5 (.int .i64 3) (.int .i64 a) (.int .i64 b) (.int .i64 c)
      exact ⟨p4.trans hB2.os, p5.trans hB2.tape, p6.trans hB2.output, by rw [p3]; exact hB2.size, fun q hq => (p2 q (by omega)).trans (hB2.block q hq)⟩
    refine pick_skip (i := 18) rfl (w1 := put4 ((W.drew.alloc (.cells #[.int .i64 0, .int .i64 0, .int .i64 0] 43)).alloc (.cells #[.int .i64 0, .int .i64 0, .int .i64 0, .int .i64 0] 31)) (W.heap.size + 1) (.int .i64 3) (.int .i64 a) (.int .i64 b) (.int .i64 c)) rfl (by kernel_rfl) rfl rfl (by simp [go_sem, put4]) (HCl.out _ HB4.out) ?_
    refine pick_skip (i := 19) rfl (w1 := put3 (put4 ((W.drew.alloc (.cells #[.int .i64 0, .int .i64 0, .int .i64 0] 43)).alloc (.cells #[.int .i64 0, .int .i64 0, .int .i64 0, .int .i64 0] 31)) (W.heap.size + 1) (.int .i64 3) (.int .i64 a) (.int .i64 b) (.int .i64 c)) (W.heap.size) (.int .i64 n) (.int .i64 v) (.int .i64 p)) rfl (by kernel_rfl) rfl rfl (by simp [go_sem, put4, put3]) (HCl.out _ HBx.out.bel) ?_
    refine pick_make (i := 20) (v := .int .i64 ((k : Int) + 1)) (w1 := put3 (put4 ((W.drew.alloc (.cells #[.int .i64 0, .int .i64 0, .int .i64 0] 43)).alloc (.cells #[.int .i64 0, .int .i64 0, .int .i64 0, .int .i64 0] 31)) (W.heap.size + 1) (.int .i64 3) (.int .i64 a) (.int .i64 b) (.int .i64 c)) (W.heap.size) (.int .i64 n) (.int .i64 v) (.int .i64 p)) rfl (by kernel_rfl) rfl rfl (by simp [go_sem]) (HCl.out _ HBx.out.bel) (by simp [go_sem]; exact rfl) ?_
    refine pick_end (by kernel_rfl) ?_
    obtain ⟨X, hX⟩ : ∃ X, put3 (put4 ((W.drew.alloc (.cells #[.int .i64 0, .int .i64 0, .int .i64 0] 43)).alloc (.cells #[.int .i64 0, .int .i64 0, .int .i64 0, .int .i64 0] 31)) (W.heap.size + 1) (.int .i64 3) (.int .i64 a) (.int .i64 b) (.int .i64 c)) (W.heap.size) (.int .i64 n) (.int .i64 v) (.int .i64 p) = X := ⟨_, rfl⟩
    rw [hX] at HBx ⊢
    obtain ⟨b5, hb5⟩ : ∃ x, W.heap.size + 1 = x := ⟨_, rfl⟩
    obtain ⟨b6, hb6⟩ : ∃ x, W.heap.size = x := ⟨_, rfl⟩
    rw [hb5] at HBx ⊢
    rw [hb6] at HBx ⊢
    clear hX hb5 hb6 g5 g6 hB1 hB2 HB4 hS HCl hD
    clear f0 f1 f2 f3 f4 f5 f6 f7 f8
    have i0 := cell_of_heap HBx.out.i 0
    have i1 := cell_of_heap HBx.out.i 1
    have i3 := cell_of_heap HBx.out.i 3
    have s0 := cell_of_heap HBx.out.s 0
    have s1 := cell_of_heap HBx.out.s 1
    have s2 := cell_of_heap HBx.out.s 2
    simp at i0 i1 i3 s0 s1 s2
    go_wp2_with fail
    refine (more_calls n v p (0) (1) _ (by have := HM.out; rw [wrap64]; omega) (by have := HM.out; rw [wrap64]; omega)).mono ?_
    rintro e X2 ⟨rfl, hb2⟩
    have HB2 := hid (HBx.out.bel.trans (hb2.mono HBx.out.bel.size))
    clear hb2 i0 i1 i3 s0 s1 s2 HBx
    go_wp2_with fail
    go_ret
    rw [HX.out]
    exact exits_one HB2.out (by first | rfl | simp)

set_option maxRecDepth 100000 in
set_option maxHeartbeats 8000000 in
theorem exits_4 {W : World} {Fb bc oc cc gs N k : Nat} {is : List In} {a b c n v p : Int} (hk0 : (0 : Int) ≤ (k : Int)) (hk1 : (k : Int) < (N : Int)) (hkN : k ≤ 1500) (hn0 : 0 ≤ n) (hn1 : n ≤ 100) (hv0 : 0 ≤ v) (hv1 : v ≤ 100) (f0 : W.cell? ⟨Fb, 0, none⟩ = some (.slice (some ⟨bc, oc, none⟩) N cc)) (f1 : W.cell? ⟨Fb, 1, none⟩ = some (.slice (some ⟨gs, 0, none⟩) N N)) (f2 : W.cell? ⟨bc, oc + k * 4, none⟩ = some (.int .i64 4)) (f3 : W.cell? ⟨bc, oc + k * 4 + 1, none⟩ = some (.int .i64 a)) (f4 : W.cell? ⟨bc, oc + k * 4 + 2, none⟩ = some (.int .i64 b)) (f5 : W.cell? ⟨bc, oc + k * 4 + 3, none⟩ = some (.int .i64 c)) (f6 : W.cell? ⟨gs, k * 3, none⟩ = some (.int .i64 n)) (f7 : W.cell? ⟨gs, k * 3 + 1, none⟩ = some (.int .i64 v)) (f8 : W.cell? ⟨gs, k * 3 + 2, none⟩ = some (.int .i64 p)) :
    Calls Tryz.prog 36 #[.pointer (some ⟨Fb, 0, none⟩), .int .i64 (k : Int)] W (ExitsP (exitsZ is k ⟨4, a, b, c⟩ ⟨n, v, p⟩) W) := by
  have hexz : exitsZ is k ⟨4, a, b, c⟩ ⟨n, v, p⟩ = [((k : Int) + 1, (⟨n + 0, v + 1, p⟩ : Sq))] := by simp [exitsZ, Sq.more]
  have HX := hid hexz
  clear hexz
  have w1 : wrap64 ((k : Int) + 1) = (k : Int) + 1 := by rw [wrap64]; omega
  have w2 : wrap64 (n + 1) = n + 1 := by rw [wrap64]; omega
  have w3 : wrap64 (n + 2) = n + 2 := by rw [wrap64]; omega
  have HM : Hid (0 ≤ n ∧ n ≤ 100 ∧ 0 ≤ v ∧ v ≤ 100) := ⟨hn0, hn1, hv0, hv1⟩
  clear hn0 hn1 hv0 hv1 hkN
  go_enter Tryz.func36, Tryz.ntmps36
  go_wp2_with fail
  have hD : Below W.heap.size W W.drew := (Below.refl _ _).drew
  have HCl : Hid (∀ X, Below W.heap.size W X → (fun w' : World => w'.cell? ⟨Fb, 0, none⟩ = some (.slice (some ⟨bc, oc, none⟩) N cc) ∧ w'.cell? ⟨Fb, 1, none⟩ = some (.slice (some ⟨gs, 0, none⟩) N N) ∧ w'.cell? ⟨bc, oc + k * 4, none⟩ = some (.int .i64 4) ∧ w'.cell? ⟨bc, oc + k * 4 + 1, none⟩ = some (.int .i64 a) ∧ w'.cell? ⟨bc, oc + k * 4 + 2, none⟩ = some (.int .i64 b) ∧ w'.cell? ⟨bc, oc + k * 4 + 3, none⟩ = some (.int .i64 c) ∧ w'.cell? ⟨gs, k * 3, none⟩ = some (.int .i64 n) ∧ w'.cell? ⟨gs, k * 3 + 1, none⟩ = some (.int .i64 v) ∧ w'.cell? ⟨gs, k * 3 + 2, none⟩ = some (.int .i64 p)) X) := fun X hX => ⟨(hX.cell (block_in0 f0)).trans f0, (hX.cell (block_in0 f1)).trans f1, (hX.cell (block_in0 f2)).trans f2, (hX.cell (block_in0 f3)).trans f3, (hX.cell (block_in0 f4)).trans f4, (hX.cell (block_in0 f5)).trans f5, (hX.cell (block_in0 f6)).trans f6, (hX.cell (block_in0 f7)).trans f7, (hX.cell (block_in0 f8)).trans f8⟩
  have hS := HCl.out W.drew hD
  refine pick_begin (S := (fun w' : World => w'.cell? ⟨Fb, 0, none⟩ = some (.slice (some ⟨bc, oc, none⟩) N cc) ∧ w'.cell? ⟨Fb, 1, none⟩ = some (.slice (some ⟨gs, 0, none⟩) N N) ∧ w'.cell? ⟨bc, oc + k * 4, none⟩ = some (.int .i64 4) ∧ w'.cell? ⟨bc, oc + k * 4 + 1, none⟩ = some (.int .i64 a) ∧ w'.cell? ⟨bc, oc + k * 4 + 2, none⟩ = some (.int .i64 b) ∧ w'.cell? ⟨bc, oc + k * 4 + 3, none⟩ = some (.int .i64 c) ∧ w'.cell? ⟨gs, k * 3, none⟩ = some (.int .i64 n) ∧ w'.cell? ⟨gs, k * 3 + 1, none⟩ = some (.int .i64 v) ∧ w'.cell? ⟨gs, k * 3 + 2, none⟩ = some (.int .i64 p))) (by kernel_rfl) rfl rfl ?_
  refine pick_op (i := 0) (v := .pointer (some ⟨Fb, 0, none⟩)) (by kernel_rfl) rfl (by kernel_rfl) (by kernel_rfl) rfl rfl (fun w' _ => by simp [go_sem]) hS (by simp [go_sem]; exact rfl) ?_
  refine pick_op (i := 1) (v := .pointer (some ⟨Fb, 0, none⟩)) (by kernel_rfl) rfl (by kernel_rfl) (by kernel_rfl) rfl rfl (fun w' _ => by simp [go_sem]) hS (by simp [go_sem]; exact rfl) ?_
  refine pick_op (i := 2) (v := .pointer (some ⟨Fb, 0, none⟩)) (by kernel_rfl) rfl (by kernel_rfl) (by kernel_rfl) rfl rfl (fun w' _ => by simp [go_sem]) hS (by simp [go_sem]; exact rfl) ?_
  refine pick_op (i := 3) (v := .slice (some ⟨bc, oc, none⟩) N cc) (by kernel_rfl) rfl (by kernel_rfl) (by kernel_rfl) rfl rfl (fun w' h => by simp [go_sem, h.1]) hS (by simp [go_sem]; exact rfl) ?_
  refine pick_op (i := 4) (v := .int .i64 (k : Int)) (by kernel_rfl) rfl (by kernel_rfl) (by kernel_rfl) rfl rfl (fun w' _ => by simp [go_sem]) hS (by simp [go_sem]; exact rfl) ?_
  refine pick_op (i := 5) (v := .pointer (some ⟨bc, oc + k * 4, none⟩)) (by kernel_rfl) rfl (by kernel_rfl) (by kernel_rfl) rfl rfl (fun w' _ => by simp [go_sem, hk0, hk1]) hS (by simp [go_sem]; exact rfl) ?_
  refine pick_op (i := 6) (v := .agg #[.int .i64 4, .int .i64 a, .int .i64 b, .int .i64 c]) (by kernel_rfl) rfl (by kernel_rfl) (by kernel_rfl) rfl rfl (fun w' h => by simp [go_sem, h.2.2.1, h.2.2.2.1, h.2.2.2.2.1, h.2.2.2.2.2.1]) hS (by simp [go_sem]; exact rfl) ?_
  refine pick_op (i := 7) (v := .pointer (some ⟨Fb, 0, none⟩)) (by kernel_rfl) rfl (by kernel_rfl) (by kernel_rfl) rfl rfl (fun w' _ => by simp [go_sem]) hS (by simp [go_sem]; exact rfl) ?_
  refine pick_op (i := 8) (v := .pointer (some ⟨Fb, 0, none⟩)) (by kernel_rfl) rfl (by kernel_rfl) (by kernel_rfl) rfl rfl (fun w' _ => by simp [go_sem]) hS (by simp [go_sem]; exact rfl) ?_
  refine pick_op (i := 9) (v := .pointer (some ⟨Fb, 1, none⟩)) (by kernel_rfl) rfl (by kernel_rfl) (by kernel_rfl) rfl rfl (fun w' _ => by simp [go_sem]) hS (by simp [go_sem]; exact rfl) ?_
  refine pick_op (i := 10) (v := .slice (some ⟨gs, 0, none⟩) N N) (by kernel_rfl) rfl (by kernel_rfl) (by kernel_rfl) rfl rfl (fun w' h => by simp [go_sem, h.2.1]) hS (by simp [go_sem]; exact rfl) ?_
  refine pick_op (i := 11) (v := .int .i64 (k : Int)) (by kernel_rfl) rfl (by kernel_rfl) (by kernel_rfl) rfl rfl (fun w' _ => by simp [go_sem]) hS (by simp [go_sem]; exact rfl) ?_
  refine pick_op (i := 12) (v := .pointer (some ⟨gs, k * 3, none⟩)) (by kernel_rfl) rfl (by kernel_rfl) (by kernel_rfl) rfl rfl (fun w' _ => by simp [go_sem, hk0, hk1]) hS (by simp [go_sem]; exact rfl) ?_
  refine pick_op (i := 13) (v := .agg #[.int .i64 n, .int .i64 v, .int .i64 p]) (by kernel_rfl) rfl (by kernel_rfl) (by kernel_rfl) rfl rfl (fun w' h => by simp [go_sem, h.2.2.2.2.2.2.1, h.2.2.2.2.2.2.2.1, h.2.2.2.2.2.2.2.2]) hS (by simp [go_sem]; exact rfl) ?_
  refine pick_op (i := 14) (v := .int .i64 (k : Int)) (by kernel_rfl) rfl (by kernel_rfl) (by kernel_rfl) rfl rfl (fun w' _ => by simp [go_sem]) hS (by simp [go_sem]; exact rfl) ?_
  refine pick_op (i := 15) (v := .int .i64 ((k : Int) + 1)) (by kernel_rfl) rfl (by kernel_rfl) (by kernel_rfl) rfl rfl (fun w' _ => by simp [go_sem]; exact (IntWalk.i64_left _).trans w1) hS (by simp [go_sem]; exact rfl) ?_
  refine pick_fork (i := 16) (j := 17) (by kernel_rfl) ?_ ?_
  · have hB1 : Below W.heap.size W (W.drew.alloc (.cells #[.int .i64 0, .int .i64 0, .int .i64 0, .int .i64 0] 31)) := hD.alloc hD.size _
    have hB2 : Below W.heap.size W ((W.drew.alloc (.cells #[.int .i64 0, .int .i64 0, .int .i64 0, .int .i64 0] 31)).alloc (.cells #[.int .i64 0, .int .i64 0, .int .i64 0] 43)) := hB1.alloc hB1.size _
    refine ⟨_, .pointer (some ⟨W.heap.size, 0, none⟩), (W.drew.alloc (.cells #[.int .i64 0, .int .i64 0, .int .i64 0, .int .i64 0] 31)), rfl, rfl, by simp [go_sem], HCl.out _ hB1, ?_⟩
    refine pick_frame (by simp [go_sem]; exact rfl) ?_
    refine pick_make (i := 17) (v := .pointer (some ⟨W.heap.size + 1, 0, none⟩)) (w1 := ((W.drew.alloc (.cells #[.int .i64 0, .int .i64 0, .int .i64 0, .int .i64 0] 31)).alloc (.cells #[.int .i64 0, .int .i64 0, .int .i64 0] 43))) rfl (by kernel_rfl) rfl rfl (by simp [go_sem]) (HCl.out _ hB2) (by simp [go_sem]; exact rfl) ?_
    have g5 : ((W.drew.alloc (.cells #[.int .i64 0, .int .i64 0, .int .i64 0, .int .i64 0] 31)).alloc (.cells #[.int .i64 0, .int .i64 0, .int .i64 0] 43)).heap[W.heap.size]? = some (.cells #[.int .i64 0, .int .i64 0, .int .i64 0, .int .i64 0] 31) := (two_new W.drew _ _).1
    have g6 : ((W.drew.alloc (.cells #[.int .i64 0, .int .i64 0, .int .i64 0, .int .i64 0] 31)).alloc (.cells #[.int .i64 0, .int .i64 0, .int .i64 0] 43)).heap[W.heap.size + 1]? = some (.cells #[.int .i64 0, .int .i64 0, .int .i64 0] 43) := (two_new W.drew _ _).2
    have HBx := hid (boxed hB2 g5 g6 (by omega) (by omega) 4 a b c n v p)
    have HB4 : Hid (Below W.heap.size W (put4 ((W.drew.alloc (.cells #[.int .i64 0, .int .i64 0, .int .i64 0, .int .i64 0] 31)).alloc (.cells #[.int .i64 0, .int .i64 0, .int .i64 0] 43)) (W.heap.size) (.int .i64 4) (.int .i64 a) (.int .i64 b) (.int .i64 c))) := by
      obtain ⟨p1, p2, p3, p4, p5, p6⟩ := put4_is g5 (.int .i64 4) (.int .i64 a) (.int .i64 b) (.int .i64 c)
      exact ⟨p4.trans hB2.os, p5.trans hB2.tape, p6.trans hB2.output, by rw [p3]; exact hB2.size, fun q hq => (p2 q (by omega)).trans (hB2.block q hq)⟩
    refine pick_skip (i := 18) rfl (w1 := put4 ((W.drew.alloc (.cells #[.int .i64 0, .int .i64 0, .int .i64 0, .int .i64 0] 31)).alloc (.cells #[.int .i64 0, .int .i64 0, .int .i64 0] 43)) (W.heap.size) (.int .i64 4) (.int .i64 a) (.int .i64 b) (.int .i64 c)) rfl (by kernel_rfl) rfl rfl (by simp [go_sem, put4]) (HCl.out _ HB4.out) ?_
    refine pick_skip (i := 19) rfl (w1 := put3 (put4 ((W.drew.alloc (.cells #[.int .i64 0, .int .i64 0, .int .i64 0, .int .i64 0] 31)).alloc (.cells #[.int .i64 0, .int .i64 0, .int .i64 0] 43)) (W.heap.size) (.int .i64 4) (.int .i64 a) (.int .i64 b) (.int .i64 c)) (W.heap.size + 1) (.int .i64 n) (.int .i64 v) (.int .i64 p)) rfl (by kernel_rfl) rfl rfl (by simp [go_sem, put4, put3]) (HCl.out _ HBx.out.bel) ?_
    refine pick_make (i := 20) (v := .int .i64 ((k : Int) + 1)) (w1 := put3 (put4 ((W.drew.alloc (.cells #[.int .i64 0, .int .i64 0, .int .i64 0, .int .i64 0] 31)).alloc (.cells #[.int .i64 0, .int .i64 0, .int .i64 0] 43)) (W.heap.size) (.int .i64 4) (.int .i64 a) (.int .i64 b) (.int .i64 c)) (W.heap.size + 1) (.int .i64 n) (.int .i64 v) (.int .i64 p)) rfl (by kernel_rfl) rfl rfl (by simp [go_sem]) (HCl.out _ HBx.out.bel) (by simp [go_sem]; exact rfl) ?_
    refine pick_end (by kernel_rfl) ?_
    obtain ⟨X, hX⟩ : ∃ X, put3 (put4 ((W.drew.alloc (.cells #[.int .i64 0, .int .i64 0, .int .i64 0, .int .i64 0] 31)).alloc (.cells #[.int .i64 0, .int .i64 0, .int .i64 0] 43)) (W.heap.size) (.int .i64 4) (.int .i64 a) (.int .i64 b) (.int .i64 c)) (W.heap.size + 1) (.int .i64 n) (.int .i64 v) (.int .i64 p) = X := ⟨_, rfl⟩
    rw [hX] at HBx ⊢
    obtain ⟨b5, hb5⟩ : ∃ x, W.heap.size = x := ⟨_, rfl⟩
    obtain ⟨b6, hb6⟩ : ∃ x, W.heap.size + 1 = x := ⟨_, rfl⟩
    rw [hb6] at HBx ⊢
    rw [hb5] at HBx ⊢
    clear hX hb5 hb6 g5 g6 hB1 hB2 HB4 hS HCl hD
    clear f0 f1 f2 f3 f4 f5 f6 f7 f8
    have i0 := cell_of_heap HBx.out.i 0
    have i1 := cell_of_heap HBx.out.i 1
    have i3 := cell_of_heap HBx.out.i 3
    have s0 := cell_of_heap HBx.out.s 0
    have s1 := cell_of_heap HBx.out.s 1
    have s2 := cell_of_heap HBx.out.s 2
    simp at i0 i1 i3 s0 s1 s2
    go_wp2_with fail
    refine (more_calls n v p (0) (1) _ (by have := HM.out; rw [wrap64]; omega) (by have := HM.out; rw [wrap64]; omega)).mono ?_
    rintro e X2 ⟨rfl, hb2⟩
    have HB2 := hid (HBx.out.bel.trans (hb2.mono HBx.out.bel.size))
    clear hb2 i0 i1 i3 s0 s1 s2 HBx
    go_wp2_with fail
    go_ret
    rw [HX.out]
    exact exits_one HB2.out (by first | rfl | simp)
  · have hB1 : Below W.heap.size W (W.drew.alloc (.cells #[.int .i64 0, .int .i64 0, .int .i64 0] 43)) := hD.alloc hD.size _
    have hB2 : Below W.heap.size W ((W.drew.alloc (.cells #[.int .i64 0, .int .i64 0, .int .i64 0] 43)).alloc (.cells #[.int .i64 0, .int .i64 0, .int .i64 0, .int .i64 0] 31)) := hB1.alloc hB1.size _
    refine ⟨_, .pointer (some ⟨W.heap.size, 0, none⟩), (W.drew.alloc (.cells #[.int .i64 0, .int .i64 0, .int .i64 0] 43)), rfl, rfl, by simp [go_sem], HCl.out _ hB1, ?_⟩
    refine pick_frame (by simp [go_sem]; exact rfl) ?_
    refine pick_make (i := 16) (v := .pointer (some ⟨W.heap.size + 1, 0, none⟩)) (w1 := ((W.drew.alloc (.cells #[.int .i64 0, .int .i64 0, .int .i64 0] 43)).alloc (.cells #[.int .i64 0, .int .i64 0, .int .i64 0, .int .i64 0] 31))) rfl (by kernel_rfl) rfl rfl (by simp [go_sem]) (HCl.out _ hB2) (by simp [go_sem]; exact rfl) ?_
    have g5 : ((W.drew.alloc (.cells #[.int .i64 0, .int .i64 0, .int .i64 0] 43)).alloc (.cells #[.int .i64 0, .int .i64 0, .int .i64 0, .int .i64 0] 31)).heap[W.heap.size + 1]? = some (.cells #[.int .i64 0, .int .i64 0, .int .i64 0, .int .i64 0] 31) := (two_new W.drew _ _).2
    have g6 : ((W.drew.alloc (.cells #[.int .i64 0, .int .i64 0, .int .i64 0] 43)).alloc (.cells #[.int .i64 0, .int .i64 0, .int .i64 0, .int .i64 0] 31)).heap[W.heap.size]? = some (.cells #[.int .i64 0, .int .i64 0, .int .i64 0] 43) := (two_new W.drew _ _).1
    have HBx := hid (boxed hB2 g5 g6 (by omega) (by omega) 4 a b c n v p)
    have HB4 : Hid (Below W.heap.size W (put4 ((W.drew.alloc (.cells #[.int .i64 0, .int .i64 0, .int .i64 0] 43)).alloc (.cells #[.int .i64 0, .int .i64 0, .int .i64 0, .int .i64 0] 31)) (W.heap.size + 1) (.int .i64 4) (.int .i64 a) (.int .i64 b) (.int .i64 c))) := by
      obtain ⟨p1, p2, p3, p4, p5, p6⟩ := put4_is g5 (.int .i64 4) (.int .i64 a) (.int .i64 b) (.int .i64 c)
      exact ⟨p4.trans hB2.os, p5.trans hB2.tape, p6.trans hB2.output, by rw [p3]; exact hB2.size, fun q hq => (p2 q (by omega)).trans (hB2.block q hq)⟩
    refine pick_skip (i := 18) rfl (w1 := put4 ((W.drew.alloc (.cells #[.int .i64 0, .int .i64 0, .int .i64 0] 43)).alloc (.cells #[.int .i64 0, .int .i64 0, .int .i64 0, .int .i64 0] 31)) (W.heap.size + 1) (.int .i64 4) (.int .i64 a) (.int .i64 b) (.int .i64 c)) rfl (by kernel_rfl) rfl rfl (by simp [go_sem, put4]) (HCl.out _ HB4.out) ?_
    refine pick_skip (i := 19) rfl (w1 := put3 (put4 ((W.drew.alloc (.cells #[.int .i64 0, .int .i64 0, .int .i64 0] 43)).alloc (.cells #[.int .i64 0, .int .i64 0, .int .i64 0, .int .i64 0] 31)) (W.heap.size + 1) (.int .i64 4) (.int .i64 a) (.int .i64 b) (.int .i64 c)) (W.heap.size) (.int .i64 n) (.int .i64 v) (.int .i64 p)) rfl (by kernel_rfl) rfl rfl (by simp [go_sem, put4, put3]) (HCl.out _ HBx.out.bel) ?_
    refine pick_make (i := 20) (v := .int .i64 ((k : Int) + 1)) (w1 := put3 (put4 ((W.drew.alloc (.cells #[.int .i64 0, .int .i64 0, .int .i64 0] 43)).alloc (.cells #[.int .i64 0, .int .i64 0, .int .i64 0, .int .i64 0] 31)) (W.heap.size + 1) (.int .i64 4) (.int .i64 a) (.int .i64 b) (.int .i64 c)) (W.heap.size) (.int .i64 n) (.int .i64 v) (.int .i64 p)) rfl (by kernel_rfl) rfl rfl (by simp [go_sem]) (HCl.out _ HBx.out.bel) (by simp [go_sem]; exact rfl) ?_
    refine pick_end (by kernel_rfl) ?_
    obtain ⟨X, hX⟩ : ∃ X, put3 (put4 ((W.drew.alloc (.cells #[.int .i64 0, .int .i64 0, .int .i64 0] 43)).alloc (.cells #[.int .i64 0, .int .i64 0, .int .i64 0, .int .i64 0] 31)) (W.heap.size + 1) (.int .i64 4) (.int .i64 a) (.int .i64 b) (.int .i64 c)) (W.heap.size) (.int .i64 n) (.int .i64 v) (.int .i64 p) = X := ⟨_, rfl⟩
    rw [hX] at HBx ⊢
    obtain ⟨b5, hb5⟩ : ∃ x, W.heap.size + 1 = x := ⟨_, rfl⟩
    obtain ⟨b6, hb6⟩ : ∃ x, W.heap.size = x := ⟨_, rfl⟩
    rw [hb5] at HBx ⊢
    rw [hb6] at HBx ⊢
    clear hX hb5 hb6 g5 g6 hB1 hB2 HB4 hS HCl hD
    clear f0 f1 f2 f3 f4 f5 f6 f7 f8
    have i0 := cell_of_heap HBx.out.i 0
    have i1 := cell_of_heap HBx.out.i 1
    have i3 := cell_of_heap HBx.out.i 3
    have s0 := cell_of_heap HBx.out.s 0
    have s1 := cell_of_heap HBx.out.s 1
    have s2 := cell_of_heap HBx.out.s 2
    simp at i0 i1 i3 s0 s1 s2
    go_wp2_with fail
    refine (more_calls n v p (0) (1) _ (by have := HM.out; rw [wrap64]; omega) (by have := HM.out; rw [wrap64]; omega)).mono ?_
    rintro e X2 ⟨rfl, hb2⟩
    have HB2 := hid (HBx.out.bel.trans (hb2.mono HBx.out.bel.size))
    clear hb2 i0 i1 i3 s0 s1 s2 HBx
    go_wp2_with fail
    go_ret
    rw [HX.out]
    exact exits_one HB2.out (by first | rfl | simp)

set_option maxRecDepth 100000 in
set_option maxHeartbeats 8000000 in
theorem exits_5 {W : World} {Fb bc oc cc gs N k : Nat} {is : List In} {a b c n v p : Int} (hk0 : (0 : Int) ≤ (k : Int)) (hk1 : (k : Int) < (N : Int)) (hkN : k ≤ 1500) (hn0 : 0 ≤ n) (hn1 : n ≤ 100) (hv0 : 0 ≤ v) (hv1 : v ≤ 100) (f0 : W.cell? ⟨Fb, 0, none⟩ = some (.slice (some ⟨bc, oc, none⟩) N cc)) (f1 : W.cell? ⟨Fb, 1, none⟩ = some (.slice (some ⟨gs, 0, none⟩) N N)) (f2 : W.cell? ⟨bc, oc + k * 4, none⟩ = some (.int .i64 5)) (f3 : W.cell? ⟨bc, oc + k * 4 + 1, none⟩ = some (.int .i64 a)) (f4 : W.cell? ⟨bc, oc + k * 4 + 2, none⟩ = some (.int .i64 b)) (f5 : W.cell? ⟨bc, oc + k * 4 + 3, none⟩ = some (.int .i64 c)) (f6 : W.cell? ⟨gs, k * 3, none⟩ = some (.int .i64 n)) (f7 : W.cell? ⟨gs, k * 3 + 1, none⟩ = some (.int .i64 v)) (f8 : W.cell? ⟨gs, k * 3 + 2, none⟩ = some (.int .i64 p)) :
    Calls Tryz.prog 36 #[.pointer (some ⟨Fb, 0, none⟩), .int .i64 (k : Int)] W (ExitsP (exitsZ is k ⟨5, a, b, c⟩ ⟨n, v, p⟩) W) := by
  have hexz : exitsZ is k ⟨5, a, b, c⟩ ⟨n, v, p⟩ = [((k : Int) + 1, (⟨n + 0, v + 1, p⟩ : Sq))] := by simp [exitsZ, Sq.more]
  have HX := hid hexz
  clear hexz
  have w1 : wrap64 ((k : Int) + 1) = (k : Int) + 1 := by rw [wrap64]; omega
  have w2 : wrap64 (n + 1) = n + 1 := by rw [wrap64]; omega
  have w3 : wrap64 (n + 2) = n + 2 := by rw [wrap64]; omega
  have HM : Hid (0 ≤ n ∧ n ≤ 100 ∧ 0 ≤ v ∧ v ≤ 100) := ⟨hn0, hn1, hv0, hv1⟩
  clear hn0 hn1 hv0 hv1 hkN
  go_enter Tryz.func36, Tryz.ntmps36
  go_wp2_with fail
  have hD : Below W.heap.size W W.drew := (Below.refl _ _).drew
  have HCl : Hid (∀ X, Below W.heap.size W X → (fun w' : World => w'.cell? ⟨Fb, 0, none⟩ = some (.slice (some ⟨bc, oc, none⟩) N cc) ∧ w'.cell? ⟨Fb, 1, none⟩ = some (.slice (some ⟨gs, 0, none⟩) N N) ∧ w'.cell? ⟨bc, oc + k * 4, none⟩ = some (.int .i64 5) ∧ w'.cell? ⟨bc, oc + k * 4 + 1, none⟩ = some (.int .i64 a) ∧ w'.cell? ⟨bc, oc + k * 4 + 2, none⟩ = some (.int .i64 b) ∧ w'.cell? ⟨bc, oc + k * 4 + 3, none⟩ = some (.int .i64 c) ∧ w'.cell? ⟨gs, k * 3, none⟩ = some (.int .i64 n) ∧ w'.cell? ⟨gs, k * 3 + 1, none⟩ = some (.int .i64 v) ∧ w'.cell? ⟨gs, k * 3 + 2, none⟩ = some (.int .i64 p)) X) := fun X hX => ⟨(hX.cell (block_in0 f0)).trans f0, (hX.cell (block_in0 f1)).trans f1, (hX.cell (block_in0 f2)).trans f2, (hX.cell (block_in0 f3)).trans f3, (hX.cell (block_in0 f4)).trans f4, (hX.cell (block_in0 f5)).trans f5, (hX.cell (block_in0 f6)).trans f6, (hX.cell (block_in0 f7)).trans f7, (hX.cell (block_in0 f8)).trans f8⟩
  have hS := HCl.out W.drew hD
  refine pick_begin (S := (fun w' : World => w'.cell? ⟨Fb, 0, none⟩ = some (.slice (some ⟨bc, oc, none⟩) N cc) ∧ w'.cell? ⟨Fb, 1, none⟩ = some (.slice (some ⟨gs, 0, none⟩) N N) ∧ w'.cell? ⟨bc, oc + k * 4, none⟩ = some (.int .i64 5) ∧ w'.cell? ⟨bc, oc + k * 4 + 1, none⟩ = some (.int .i64 a) ∧ w'.cell? ⟨bc, oc + k * 4 + 2, none⟩ = some (.int .i64 b) ∧ w'.cell? ⟨bc, oc + k * 4 + 3, none⟩ = some (.int .i64 c) ∧ w'.cell? ⟨gs, k * 3, none⟩ = some (.int .i64 n) ∧ w'.cell? ⟨gs, k * 3 + 1, none⟩ = some (.int .i64 v) ∧ w'.cell? ⟨gs, k * 3 + 2, none⟩ = some (.int .i64 p))) (by kernel_rfl) rfl rfl ?_
  refine pick_op (i := 0) (v := .pointer (some ⟨Fb, 0, none⟩)) (by kernel_rfl) rfl (by kernel_rfl) (by kernel_rfl) rfl rfl (fun w' _ => by simp [go_sem]) hS (by simp [go_sem]; exact rfl) ?_
  refine pick_op (i := 1) (v := .pointer (some ⟨Fb, 0, none⟩)) (by kernel_rfl) rfl (by kernel_rfl) (by kernel_rfl) rfl rfl (fun w' _ => by simp [go_sem]) hS (by simp [go_sem]; exact rfl) ?_
  refine pick_op (i := 2) (v := .pointer (some ⟨Fb, 0, none⟩)) (by kernel_rfl) rfl (by kernel_rfl) (by kernel_rfl) rfl rfl (fun w' _ => by simp [go_sem]) hS (by simp [go_sem]; exact rfl) ?_
  refine pick_op (i := 3) (v := .slice (some ⟨bc, oc, none⟩) N cc) (by kernel_rfl) rfl (by kernel_rfl) (by kernel_rfl) rfl rfl (fun w' h => by simp [go_sem, h.1]) hS (by simp [go_sem]; exact rfl) ?_
  refine pick_op (i := 4) (v := .int .i64 (k : Int)) (by kernel_rfl) rfl (by kernel_rfl) (by kernel_rfl) rfl rfl (fun w' _ => by simp [go_sem]) hS (by simp [go_sem]; exact rfl) ?_
  refine pick_op (i := 5) (v := .pointer (some ⟨bc, oc + k * 4, none⟩)) (by kernel_rfl) rfl (by kernel_rfl) (by kernel_rfl) rfl rfl (fun w' _ => by simp [go_sem, hk0, hk1]) hS (by simp [go_sem]; exact rfl) ?_
  refine pick_op (i := 6) (v := .agg #[.int .i64 5, .int .i64 a, .int .i64 b, .int .i64 c]) (by kernel_rfl) rfl (by kernel_rfl) (by kernel_rfl) rfl rfl (fun w' h => by simp [go_sem, h.2.2.1, h.2.2.2.1, h.2.2.2.2.1, h.2.2.2.2.2.1]) hS (by simp [go_sem]; exact rfl) ?_
  refine pick_op (i := 7) (v := .pointer (some ⟨Fb, 0, none⟩)) (by kernel_rfl) rfl (by kernel_rfl) (by kernel_rfl) rfl rfl (fun w' _ => by simp [go_sem]) hS (by simp [go_sem]; exact rfl) ?_
  refine pick_op (i := 8) (v := .pointer (some ⟨Fb, 0, none⟩)) (by kernel_rfl) rfl (by kernel_rfl) (by kernel_rfl) rfl rfl (fun w' _ => by simp [go_sem]) hS (by simp [go_sem]; exact rfl) ?_
  refine pick_op (i := 9) (v := .pointer (some ⟨Fb, 1, none⟩)) (by kernel_rfl) rfl (by kernel_rfl) (by kernel_rfl) rfl rfl (fun w' _ => by simp [go_sem]) hS (by simp [go_sem]; exact rfl) ?_
  refine pick_op (i := 10) (v := .slice (some ⟨gs, 0, none⟩) N N) (by kernel_rfl) rfl (by kernel_rfl) (by kernel_rfl) rfl rfl (fun w' h => by simp [go_sem, h.2.1]) hS (by simp [go_sem]; exact rfl) ?_
  refine pick_op (i := 11) (v := .int .i64 (k : Int)) (by kernel_rfl) rfl (by kernel_rfl) (by kernel_rfl) rfl rfl (fun w' _ => by simp [go_sem]) hS (by simp [go_sem]; exact rfl) ?_
  refine pick_op (i := 12) (v := .pointer (some ⟨gs, k * 3, none⟩)) (by kernel_rfl) rfl (by kernel_rfl) (by kernel_rfl) rfl rfl (fun w' _ => by simp [go_sem, hk0, hk1]) hS (by simp [go_sem]; exact rfl) ?_
  refine pick_op (i := 13) (v := .agg #[.int .i64 n, .int .i64 v, .int .i64 p]) (by kernel_rfl) rfl (by kernel_rfl) (by kernel_rfl) rfl rfl (fun w' h => by simp [go_sem, h.2.2.2.2.2.2.1, h.2.2.2.2.2.2.2.1, h.2.2.2.2.2.2.2.2]) hS (by simp [go_sem]; exact rfl) ?_
  refine pick_op (i := 14) (v := .int .i64 (k : Int)) (by kernel_rfl) rfl (by kernel_rfl) (by kernel_rfl) rfl rfl (fun w' _ => by simp [go_sem]) hS (by simp [go_sem]; exact rfl) ?_
  refine pick_op (i := 15) (v := .int .i64 ((k : Int) + 1)) (by kernel_rfl) rfl (by kernel_rfl) (by kernel_rfl) rfl rfl (fun w' _ => by simp [go_sem]; exact (IntWalk.i64_left _).trans w1) hS (by simp [go_sem]; exact rfl) ?_
  refine pick_fork (i := 16) (j := 17) (by kernel_rfl) ?_ ?_
  · have hB1 : Below W.heap.size W (W.drew.alloc (.cells #[.int .i64 0, .int .i64 0, .int .i64 0, .int .i64 0] 31)) := hD.alloc hD.size _
    have hB2 : Below W.heap.size W ((W.drew.alloc (.cells #[.int .i64 0, .int .i64 0, .int .i64 0, .int .i64 0] 31)).alloc (.cells #[.int .i64 0, .int .i64 0, .int .i64 0] 43)) := hB1.alloc hB1.size _
    refine ⟨_, .pointer (some ⟨W.heap.size, 0, none⟩), (W.drew.alloc (.cells #[.int .i64 0, .int .i64 0, .int .i64 0, .int .i64 0] 31)), rfl, rfl, by simp [go_sem], HCl.out _ hB1, ?_⟩
    refine pick_frame (by simp [go_sem]; exact rfl) ?_
    refine pick_make (i := 17) (v := .pointer (some ⟨W.heap.size + 1, 0, none⟩)) (w1 := ((W.drew.alloc (.cells #[.int .i64 0, .int .i64 0, .int .i64 0, .int .i64 0] 31)).alloc (.cells #[.int .i64 0, .int .i64 0, .int .i64 0] 43))) rfl (by kernel_rfl) rfl rfl (by simp [go_sem]) (HCl.out _ hB2) (by simp [go_sem]; exact rfl) ?_
    have g5 : ((W.drew.alloc (.cells #[.int .i64 0, .int .i64 0, .int .i64 0, .int .i64 0] 31)).alloc (.cells #[.int .i64 0, .int .i64 0, .int .i64 0] 43)).heap[W.heap.size]? = some (.cells #[.int .i64 0, .int .i64 0, .int .i64 0, .int .i64 0] 31) := (two_new W.drew _ _).1
    have g6 : ((W.drew.alloc (.cells #[.int .i64 0, .int .i64 0, .int .i64 0, .int .i64 0] 31)).alloc (.cells #[.int .i64 0, .int .i64 0, .int .i64 0] 43)).heap[W.heap.size + 1]? = some (.cells #[.int .i64 0, .int .i64 0, .int .i64 0] 43) := (two_new W.drew _ _).2
    have HBx := hid (boxed hB2 g5 g6 (by omega) (by omega) 5 a b c n v p)
    have HB4 : Hid (Below W.heap.size W (put4 ((W.drew.alloc (.cells #[.int .i64 0, .int .i64 0, .int .i64 0, .int .i64 0] 31)).alloc (.cells #[.int .i64 0, .int .i64 0, .int .i64 0] 43)) (W.heap.size) (.int .i64 5) (.int .i64 a) (.int .i64 b) (.int .i64 c))) := by
      obtain ⟨p1, p2, p3, p4, p5, p6⟩ := put4_is g5 (.int .i64 5) (.int .i64 a) (.int .i64 b) (.int .i64 c)
      exact ⟨p4.trans hB2.os, p5.trans hB2.tape, p6.trans hB2.output, by rw [p3]; exact hB2.size, fun q hq => (p2 q (by omega)).trans (hB2.block q hq)⟩
    refine pick_skip (i := 18) rfl (w1 := put4 ((W.drew.alloc (.cells #[.int .i64 0, .int .i64 0, .int .i64 0, .int .i64 0] 31)).alloc (.cells #[.int .i64 0, .int .i64 0, .int .i64 0] 43)) (W.heap.size) (.int .i64 5) (.int .i64 a) (.int .i64 b) (.int .i64 c)) rfl (by kernel_rfl) rfl rfl (by simp [go_sem, put4]) (HCl.out _ HB4.out) ?_
    refine pick_skip (i := 19) rfl (w1 := put3 (put4 ((W.drew.alloc (.cells #[.int .i64 0, .int .i64 0, .int .i64 0, .int .i64 0] 31)).alloc (.cells #[.int .i64 0, .int .i64 0, .int .i64 0] 43)) (W.heap.size) (.int .i64 5) (.int .i64 a) (.int .i64 b) (.int .i64 c)) (W.heap.size + 1) (.int .i64 n) (.int .i64 v) (.int .i64 p)) rfl (by kernel_rfl) rfl rfl (by simp [go_sem, put4, put3]) (HCl.out _ HBx.out.bel) ?_
    refine pick_make (i := 20) (v := .int .i64 ((k : Int) + 1)) (w1 := put3 (put4 ((W.drew.alloc (.cells #[.int .i64 0, .int .i64 0, .int .i64 0, .int .i64 0] 31)).alloc (.cells #[.int .i64 0, .int .i64 0, .int .i64 0] 43)) (W.heap.size) (.int .i64 5) (.int .i64 a) (.int .i64 b) (.int .i64 c)) (W.heap.size + 1) (.int .i64 n) (.int .i64 v) (.int .i64 p)) rfl (by kernel_rfl) rfl rfl (by simp [go_sem]) (HCl.out _ HBx.out.bel) (by simp [go_sem]; exact rfl) ?_
    refine pick_end (by kernel_rfl) ?_
    obtain ⟨X, hX⟩ : ∃ X, put3 (put4 ((W.drew.alloc (.cells #[.int .i64 0, .int .i64 0, .int .i64 0, .int .i64 0] 31)).alloc (.cells #[.int .i64 0, .int .i64 0, .int .i64 0] 43)) (W.heap.size) (.int .i64 5) (.int .i64 a) (.int .i64 b) (.int .i64 c)) (W.heap.size + 1) (.int .i64 n) (.int .i64 v) (.int .i64 p) = X := ⟨_, rfl⟩
    rw [hX] at HBx ⊢
    obtain ⟨b5, hb5⟩ : ∃ x, W.heap.size = x := ⟨_, rfl⟩
    obtain ⟨b6, hb6⟩ : ∃ x, W.heap.size + 1 = x := ⟨_, rfl⟩
    rw [hb6] at HBx ⊢
    rw [hb5] at HBx ⊢
    clear hX hb5 hb6 g5 g6 hB1 hB2 HB4 hS HCl hD
    clear f0 f1 f2 f3 f4 f5 f6 f7 f8
    have i0 := cell_of_heap HBx.out.i 0
    have i1 := cell_of_heap HBx.out.i 1
    have i3 := cell_of_heap HBx.out.i 3
    have s0 := cell_of_heap HBx.out.s 0
    have s1 := cell_of_heap HBx.out.s 1
    have s2 := cell_of_heap HBx.out.s 2
    simp at i0 i1 i3 s0 s1 s2
    go_wp2_with fail
    refine (more_calls n v p (0) (1) _ (by have := HM.out; rw [wrap64]; omega) (by have := HM.out; rw [wrap64]; omega)).mono ?_
    rintro e X2 ⟨rfl, hb2⟩
    have HB2 := hid (HBx.out.bel.trans (hb2.mono HBx.out.bel.size))
    clear hb2 i0 i1 i3 s0 s1 s2 HBx
    go_wp2_with fail
    go_ret
    rw [HX.out]
    exact exits_one HB2.out (by first | rfl | simp)
  · have hB1 : Below W.heap.size W (W.drew.alloc (.cells #[.int .i64 0, .int .i64 0, .int .i64 0] 43)) := hD.alloc hD.size _
    have hB2 : Below W.heap.size W ((W.drew.alloc (.cells #[.int .i64 0, .int .i64 0, .int .i64 0] 43)).alloc (.cells #[.int .i64 0, .int .i64 0, .int .i64 0, .int .i64 0] 31)) := hB1.alloc hB1.size _
    refine ⟨_, .pointer (some ⟨W.heap.size, 0, none⟩), (W.drew.alloc (.cells #[.int .i64 0, .int .i64 0, .int .i64 0] 43)), rfl, rfl, by simp [go_sem], HCl.out _ hB1, ?_⟩
    refine pick_frame (by simp [go_sem]; exact rfl) ?_
    refine pick_make (i := 16) (v := .pointer (some ⟨W.heap.size + 1, 0, none⟩)) (w1 := ((W.drew.alloc (.cells #[.int .i64 0, .int .i64 0, .int .i64 0] 43)).alloc (.cells #[.int .i64 0, .int .i64 0, .int .i64 0, .int .i64 0] 31))) rfl (by kernel_rfl) rfl rfl (by simp [go_sem]) (HCl.out _ hB2) (by simp [go_sem]; exact rfl) ?_
    have g5 : ((W.drew.alloc (.cells #[.int .i64 0, .int .i64 0, .int .i64 0] 43)).alloc (.cells #[.int .i64 0, .int .i64 0, .int .i64 0, .int .i64 0] 31)).heap[W.heap.size + 1]? = some (.cells #[.int .i64 0, .int .i64 0, .int .i64 0, .int .i64 0] 31) := (two_new W.drew _ _).2
    have g6 : ((W.drew.alloc (.cells #[.int .i64 0, .int .i64 0, .int .i64 0] 43)).alloc (.cells #[.int .i64 0, .int .i64 0, .int .i64 0, .int .i64 0] 31)).heap[W.heap.size]? = some (.cells #[.int .i64 0, .int .i64 0, .int .i64 0] 43) := (two_new W.drew _ _).1
    have HBx := hid (boxed hB2 g5 g6 (by omega) (by omega) 5 a b c n v p)
    have HB4 : Hid (Below W.heap.size W (put4 ((W.drew.alloc (.cells #[.int .i64 0, .int .i64 0, .int .i64 0] 43)).alloc (.cells #[.int .i64 0, .int .i64 0, .int .i64 0, .int .i64 0] 31)) (W.heap.size + 1) (.int .i64 5) (.int .i64 a) (.int .i64 b) (.int .i64 c))) := by
      obtain ⟨p1, p2, p3, p4, p5, p6⟩ := put4_is g5 (.int .i64 5) (.int .i64 a) (.int .i64 b) (.int .i64 c)
      exact ⟨p4.trans hB2.os, p5.trans hB2.tape, p6.trans hB2.output, by rw [p3]; exact hB2.size, fun q hq => (p2 q (by omega)).trans (hB2.block q hq)⟩
    refine pick_skip (i := 18) rfl (w1 := put4 ((W.drew.alloc (.cells #[.int .i64 0, .int .i64 0, .int .i64 0] 43)).alloc (.cells #[.int .i64 0, .int .i64 0, .int .i64 0, .int .i64 0] 31)) (W.heap.size + 1) (.int .i64 5) (.int .i64 a) (.int .i64 b) (.int .i64 c)) rfl (by kernel_rfl) rfl rfl (by simp [go_sem, put4]) (HCl.out _ HB4.out) ?_
    refine pick_skip (i := 19) rfl (w1 := put3 (put4 ((W.drew.alloc (.cells #[.int .i64 0, .int .i64 0, .int .i64 0] 43)).alloc (.cells #[.int .i64 0, .int .i64 0, .int .i64 0, .int .i64 0] 31)) (W.heap.size + 1) (.int .i64 5) (.int .i64 a) (.int .i64 b) (.int .i64 c)) (W.heap.size) (.int .i64 n) (.int .i64 v) (.int .i64 p)) rfl (by kernel_rfl) rfl rfl (by simp [go_sem, put4, put3]) (HCl.out _ HBx.out.bel) ?_
    refine pick_make (i := 20) (v := .int .i64 ((k : Int) + 1)) (w1 := put3 (put4 ((W.drew.alloc (.cells #[.int .i64 0, .int .i64 0, .int .i64 0] 43)).alloc (.cells #[.int .i64 0, .int .i64 0, .int .i64 0, .int .i64 0] 31)) (W.heap.size + 1) (.int .i64 5) (.int .i64 a) (.int .i64 b) (.int .i64 c)) (W.heap.size) (.int .i64 n) (.int .i64 v) (.int .i64 p)) rfl (by kernel_rfl) rfl rfl (by simp [go_sem]) (HCl.out _ HBx.out.bel) (by simp [go_sem]; exact rfl) ?_
    refine pick_end (by kernel_rfl) ?_
    obtain ⟨X, hX⟩ : ∃ X, put3 (put4 ((W.drew.alloc (.cells #[.int .i64 0, .int .i64 0, .int .i64 0] 43)).alloc (.cells #[.int .i64 0, .int .i64 0, .int .i64 0, .int .i64 0] 31)) (W.heap.size + 1) (.int .i64 5) (.int .i64 a) (.int .i64 b) (.int .i64 c)) (W.heap.size) (.int .i64 n) (.int .i64 v) (.int .i64 p) = X := ⟨_, rfl⟩
    rw [hX] at HBx ⊢
    obtain ⟨b5, hb5⟩ : ∃ x, W.heap.size + 1 = x := ⟨_, rfl⟩
    obtain ⟨b6, hb6⟩ : ∃ x, W.heap.size = x := ⟨_, rfl⟩
    rw [hb5] at HBx ⊢
    rw [hb6] at HBx ⊢
    clear hX hb5 hb6 g5 g6 hB1 hB2 HB4 hS HCl hD
    clear f0 f1 f2 f3 f4 f5 f6 f7 f8
    have i0 := cell_of_heap HBx.out.i 0
    have i1 := cell_of_heap HBx.out.i 1
    have i3 := cell_of_heap HBx.out.i 3
    have s0 := cell_of_heap HBx.out.s 0
    have s1 := cell_of_heap HBx.out.s 1
    have s2 := cell_of_heap HBx.out.s 2
    simp at i0 i1 i3 s0 s1 s2
    go_wp2_with fail
    refine (more_calls n v p (0) (1) _ (by have := HM.out; rw [wrap64]; omega) (by have := HM.out; rw [wrap64]; omega)).mono ?_
    rintro e X2 ⟨rfl, hb2⟩
    have HB2 := hid (HBx.out.bel.trans (hb2.mono HBx.out.bel.size))
    clear hb2 i0 i1 i3 s0 s1 s2 HBx
    go_wp2_with fail
    go_ret
    rw [HX.out]
    exact exits_one HB2.out (by first | rfl | simp)

set_option maxRecDepth 100000 in
set_option maxHeartbeats 8000000 in
theorem exits_8 {W : World} {Fb bc oc cc gs N k : Nat} {is : List In} {a b c n v p : Int} (hk0 : (0 : Int) ≤ (k : Int)) (hk1 : (k : Int) < (N : Int)) (hkN : k ≤ 1500) (hn0 : 0 ≤ n) (hn1 : n ≤ 100) (hv0 : 0 ≤ v) (hv1 : v ≤ 100) (f0 : W.cell? ⟨Fb, 0, none⟩ = some (.slice (some ⟨bc, oc, none⟩) N cc)) (f1 : W.cell? ⟨Fb, 1, none⟩ = some (.slice (some ⟨gs, 0, none⟩) N N)) (f2 : W.cell? ⟨bc, oc + k * 4, none⟩ = some (.int .i64 8)) (f3 : W.cell? ⟨bc, oc + k * 4 + 1, none⟩ = some (.int .i64 a)) (f4 : W.cell? ⟨bc, oc + k * 4 + 2, none⟩ = some (.int .i64 b)) (f5 : W.cell? ⟨bc, oc + k * 4 + 3, none⟩ = some (.int .i64 c)) (f6 : W.cell? ⟨gs, k * 3, none⟩ = some (.int .i64 n)) (f7 : W.cell? ⟨gs, k * 3 + 1, none⟩ = some (.int .i64 v)) (f8 : W.cell? ⟨gs, k * 3 + 2, none⟩ = some (.int .i64 p)) :
    Calls Tryz.prog 36 #[.pointer (some ⟨Fb, 0, none⟩), .int .i64 (k : Int)] W (ExitsP (exitsZ is k ⟨8, a, b, c⟩ ⟨n, v, p⟩) W) := by
  have hexz : exitsZ is k ⟨8, a, b, c⟩ ⟨n, v, p⟩ = [((k : Int) + 1, (⟨n + 0, v + (-1), p⟩ : Sq))] := by simp [exitsZ, Sq.more]
  have HX := hid hexz
  clear hexz
  have w1 : wrap64 ((k : Int) + 1) = (k : Int) + 1 := by rw [wrap64]; omega
  have w2 : wrap64 (n + 1) = n + 1 := by rw [wrap64]; omega
  have w3 : wrap64 (n + 2) = n + 2 := by rw [wrap64]; omega
  have HM : Hid (0 ≤ n ∧ n ≤ 100 ∧ 0 ≤ v ∧ v ≤ 100) := ⟨hn0, hn1, hv0, hv1⟩
  clear hn0 hn1 hv0 hv1 hkN
  go_enter Tryz.func36, Tryz.ntmps36
  go_wp2_with fail
  have hD : Below W.heap.size W W.drew := (Below.refl _ _).drew
  have HCl : Hid (∀ X, Below W.heap.size W X → (fun w' : World => w'.cell? ⟨Fb, 0, none⟩ = some (.slice (some ⟨bc, oc, none⟩) N cc) ∧ w'.cell? ⟨Fb, 1, none⟩ = some (.slice (some ⟨gs, 0, none⟩) N N) ∧ w'.cell? ⟨bc, oc + k * 4, none⟩ = some (.int .i64 8) ∧ w'.cell? ⟨bc, oc + k * 4 + 1, none⟩ = some (.int .i64 a) ∧ w'.cell? ⟨bc, oc + k * 4 + 2, none⟩ = some (.int .i64 b) ∧ w'.cell? ⟨bc, oc + k * 4 + 3, none⟩ = some (.int .i64 c) ∧ w'.cell? ⟨gs, k * 3, none⟩ = some (.int .i64 n) ∧ w'.cell? ⟨gs, k * 3 + 1, none⟩ = some (.int .i64 v) ∧ w'.cell? ⟨gs, k * 3 + 2, none⟩ = some (.int .i64 p)) X) := fun X hX => ⟨(hX.cell (block_in0 f0)).trans f0, (hX.cell (block_in0 f1)).trans f1, (hX.cell (block_in0 f2)).trans f2, (hX.cell (block_in0 f3)).trans f3, (hX.cell (block_in0 f4)).trans f4, (hX.cell (block_in0 f5)).trans f5, (hX.cell (block_in0 f6)).trans f6, (hX.cell (block_in0 f7)).trans f7, (hX.cell (block_in0 f8)).trans f8⟩
  have hS := HCl.out W.drew hD
  refine pick_begin (S := (fun w' : World => w'.cell? ⟨Fb, 0, none⟩ = some (.slice (some ⟨bc, oc, none⟩) N cc) ∧ w'.cell? ⟨Fb, 1, none⟩ = some (.slice (some ⟨gs, 0, none⟩) N N) ∧ w'.cell? ⟨bc, oc + k * 4, none⟩ = some (.int .i64 8) ∧ w'.cell? ⟨bc, oc + k * 4 + 1, none⟩ = some (.int .i64 a) ∧ w'.cell? ⟨bc, oc + k * 4 + 2, none⟩ = some (.int .i64 b) ∧ w'.cell? ⟨bc, oc + k * 4 + 3, none⟩ = some (.int .i64 c) ∧ w'.cell? ⟨gs, k * 3, none⟩ = some (.int .i64 n) ∧ w'.cell? ⟨gs, k * 3 + 1, none⟩ = some (.int .i64 v) ∧ w'.cell? ⟨gs, k * 3 + 2, none⟩ = some (.int .i64 p))) (by kernel_rfl) rfl rfl ?_
  refine pick_op (i := 0) (v := .pointer (some ⟨Fb, 0, none⟩)) (by kernel_rfl) rfl (by kernel_rfl) (by kernel_rfl) rfl rfl (fun w' _ => by simp [go_sem]) hS (by simp [go_sem]; exact rfl) ?_
  refine pick_op (i := 1) (v := .pointer (some ⟨Fb, 0, none⟩)) (by kernel_rfl) rfl (by kernel_rfl) (by kernel_rfl) rfl rfl (fun w' _ => by simp [go_sem]) hS (by simp [go_sem]; exact rfl) ?_
  refine pick_op (i := 2) (v := .pointer (some ⟨Fb, 0, none⟩)) (by kernel_rfl) rfl (by kernel_rfl) (by kernel_rfl) rfl rfl (fun w' _ => by simp [go_sem]) hS (by simp [go_sem]; exact rfl) ?_
  refine pick_op (i := 3) (v := .slice (some ⟨bc, oc, none⟩) N cc) (by kernel_rfl) rfl (by kernel_rfl) (by kernel_rfl) rfl rfl (fun w' h => by simp [go_sem, h.1]) hS (by simp [go_sem]; exact rfl) ?_
  refine pick_op (i := 4) (v := .int .i64 (k : Int)) (by kernel_rfl) rfl (by kernel_rfl) (by kernel_rfl) rfl rfl (fun w' _ => by simp [go_sem]) hS (by simp [go_sem]; exact rfl) ?_
  refine pick_op (i := 5) (v := .pointer (some ⟨bc, oc + k * 4, none⟩)) (by kernel_rfl) rfl (by kernel_rfl) (by kernel_rfl) rfl rfl (fun w' _ => by simp [go_sem, hk0, hk1]) hS (by simp [go_sem]; exact rfl) ?_
  refine pick_op (i := 6) (v := .agg #[.int .i64 8, .int .i64 a, .int .i64 b, .int .i64 c]) (by kernel_rfl) rfl (by kernel_rfl) (by kernel_rfl) rfl rfl (fun w' h => by simp [go_sem, h.2.2.1, h.2.2.2.1, h.2.2.2.2.1, h.2.2.2.2.2.1]) hS (by simp [go_sem]; exact rfl) ?_
  refine pick_op (i := 7) (v := .pointer (some ⟨Fb, 0, none⟩)) (by kernel_rfl) rfl (by kernel_rfl) (by kernel_rfl) rfl rfl (fun w' _ => by simp [go_sem]) hS (by simp [go_sem]; exact rfl) ?_
  refine pick_op (i := 8) (v := .pointer (some ⟨Fb, 0, none⟩)) (by kernel_rfl) rfl (by kernel_rfl) (by kernel_rfl) rfl rfl (fun w' _ => by simp [go_sem]) hS (by simp [go_sem]; exact rfl) ?_
  refine pick_op (i := 9) (v := .pointer (some ⟨Fb, 1, none⟩)) (by kernel_rfl) rfl (by kernel_rfl) (by kernel_rfl) rfl rfl (fun w' _ => by simp [go_sem]) hS (by simp [go_sem]; exact rfl) ?_
  refine pick_op (i := 10) (v := .slice (some ⟨gs, 0, none⟩) N N) (by kernel_rfl) rfl (by kernel_rfl) (by kernel_rfl) rfl rfl (fun w' h => by simp [go_sem, h.2.1]) hS (by simp [go_sem]; exact rfl) ?_
  refine pick_op (i := 11) (v := .int .i64 (k : Int)) (by kernel_rfl) rfl (by kernel_rfl) (by kernel_rfl) rfl rfl (fun w' _ => by simp [go_sem]) hS (by simp [go_sem]; exact rfl) ?_
  refine pick_op (i := 12) (v := .pointer (some ⟨gs, k * 3, none⟩)) (by kernel_rfl) rfl (by kernel_rfl) (by kernel_rfl) rfl rfl (fun w' _ => by simp [go_sem, hk0, hk1]) hS (by simp [go_sem]; exact rfl) ?_
  refine pick_op (i := 13) (v := .agg #[.int .i64 n, .int .i64 v, .int .i64 p]) (by kernel_rfl) rfl (by kernel_rfl) (by kernel_rfl) rfl rfl (fun w' h => by simp [go_sem, h.2.2.2.2.2.2.1, h.2.2.2.2.2.2.2.1, h.2.2.2.2.2.2.2.2]) hS (by simp [go_sem]; exact rfl) ?_
  refine pick_op (i := 14) (v := .int .i64 (k : Int)) (by kernel_rfl) rfl (by kernel_rfl) (by kernel_rfl) rfl rfl (fun w' _ => by simp [go_sem]) hS (by simp [go_sem]; exact rfl) ?_
  refine pick_op (i := 15) (v := .int .i64 ((k : Int) + 1)) (by kernel_rfl) rfl (by kernel_rfl) (by kernel_rfl) rfl rfl (fun w' _ => by simp [go_sem]; exact (IntWalk.i64_left _).trans w1) hS (by simp [go_sem]; exact rfl) ?_
  refine pick_fork (i := 16) (j := 17) (by kernel_rfl) ?_ ?_
  · have hB1 : Below W.heap.size W (W.drew.alloc (.cells #[.int .i64 0, .int .i64 0, .int .i64 0, .int .i64 0] 31)) := hD.alloc hD.size _
    have hB2 : Below W.heap.size W ((W.drew.alloc (.cells #[.int .i64 0, .int .i64 0, .int .i64 0, .int .i64 0] 31)).alloc (.cells #[.int .i64 0, .int .i64 0, .int .i64 0] 43)) := hB1.alloc hB1.size _
    refine ⟨_, .pointer (some ⟨W.heap.size, 0, none⟩), (W.drew.alloc (.cells #[.int .i64 0, .int .i64 0, .int .i64 0, .int .i64 0] 31)), rfl, rfl, by simp [go_sem], HCl.out _ hB1, ?_⟩
    refine pick_frame (by simp [go_sem]; exact rfl) ?_
    refine pick_make (i := 17) (v := .pointer (some ⟨W.heap.size + 1, 0, none⟩)) (w1 := ((W.drew.alloc (.cells #[.int .i64 0, .int .i64 0, .int .i64 0, .int .i64 0] 31)).alloc (.cells #[.int .i64 0, .int .i64 0, .int .i64 0] 43))) rfl (by kernel_rfl) rfl rfl (by simp [go_sem]) (HCl.out _ hB2) (by simp [go_sem]; exact rfl) ?_
    have g5 : ((W.drew.alloc (.cells #[.int .i64 0, .int .i64 0, .int .i64 0, .int .i64 0] 31)).alloc (.cells #[.int .i64 0, .int .i64 0, .int .i64 0] 43)).heap[W.heap.size]? = some (.cells #[.int .i64 0, .int .i64 0, .int .i64 0, .int .i64 0] 31) := (two_new W.drew _ _).1
    have g6 : ((W.drew.alloc (.cells #[.int .i64 0, .int .i64 0, .int .i64 0, .int .i64 0] 31)).alloc (.cells #[.int .i64 0, .int .i64 0, .int .i64 0] 43)).heap[W.heap.size + 1]? = some (.cells #[.int .i64 0, .int .i64 0, .int .i64 0] 43) := (two_new W.drew _ _).2
    have HBx := hid (boxed hB2 g5 g6 (by omega) (by omega) 8 a b c n v p)
    have HB4 : Hid (Below W.heap.size W (put4 ((W.drew.alloc (.cells #[.int .i64 0, .int .i64 0, .int .i64 0, .int .i64 0] 31)).alloc (.cells #[.int .i64 0, .int .i64 0, .int .i64 0] 43)) (W.heap.size) (.int .i64 8) (.int .i64 a) (.int .i64 b) (.int .i64 c))) := by
      obtain ⟨p1, p2, p3, p4, p5, p6⟩ := put4_is g5 (.int .i64 8) (.int .i64 a) (.int .i64 b) (.int .i64 c)
      exact ⟨p4.trans hB2.os, p5.trans hB2.tape, p6.trans hB2.output, by rw [p3]; exact hB2.size, fun q hq => (p2 q (by omega)).trans (hB2.block q hq)⟩
    refine pick_skip (i := 18) rfl (w1 := put4 ((W.drew.alloc (.cells #[.int .i64 0, .int .i64 0, .int .i64 0, .int .i64 0] 31)).alloc (.cells #[.int .i64 0, .int .i64 0, .int .i64 0] 43)) (W.heap.size) (.int .i64 8) (.int .i64 a) (.int .i64 b) (.int .i64 c)) rfl (by kernel_rfl) rfl rfl (by simp [go_sem, put4]) (HCl.out _ HB4.out) ?_
    refine pick_skip (i := 19) rfl (w1 := put3 (put4 ((W.drew.alloc (.cells #[.int .i64 0, .int .i64 0, .int .i64 0, .int .i64 0] 31)).alloc (.cells #[.int .i64 0, .int .i64 0, .int .i64 0] 43)) (W.heap.size) (.int .i64 8) (.int .i64 a) (.int .i64 b) (.int .i64 c)) (W.heap.size + 1) (.int .i64 n) (.int .i64 v) (.int .i64 p)) rfl (by kernel_rfl) rfl rfl (by simp [go_sem, put4, put3]) (HCl.out _ HBx.out.bel) ?_
    refine pick_make (i := 20) (v := .int .i64 ((k : Int) + 1)) (w1 := put3 (put4 ((W.drew.alloc (.cells #[.int .i64 0, .int .i64 0, .int .i64 0, .int .i64 0] 31)).alloc (.cells #[.int .i64 0, .int .i64 0, .int .i64 0] 43)) (W.heap.size) (.int .i64 8) (.int .i64 a) (.int .i64 b) (.int .i64 c)) (W.heap.size + 1) (.int .i64 n) (.int .i64 v) (.int .i64 p)) rfl (by kernel_rfl) rfl rfl (by simp [go_sem]) (HCl.out _ HBx.out.bel) (by simp [go_sem]; exact rfl) ?_
    refine pick_end (by kernel_rfl) ?_
    obtain ⟨X, hX⟩ : ∃ X, put3 (put4 ((W.drew.alloc (.cells #[.int .i64 0, .int .i64 0, .int .i64 0, .int .i64 0] 31)).alloc (.cells #[.int .i64 0, .int .i64 0, .int .i64 0] 43)) (W.heap.size) (.int .i64 8) (.int .i64 a) (.int .i64 b) (.int .i64 c)) (W.heap.size + 1) (.int .i64 n) (.int .i64 v) (.int .i64 p) = X := ⟨_, rfl⟩
    rw [hX] at HBx ⊢
    obtain ⟨b5, hb5⟩ : ∃ x, W.heap.size = x := ⟨_, rfl⟩
    obtain ⟨b6, hb6⟩ : ∃ x, W.heap.size + 1 = x := ⟨_, rfl⟩
    rw [hb6] at HBx ⊢
    rw [hb5] at HBx ⊢
    clear hX hb5 hb6 g5 g6 hB1 hB2 HB4 hS HCl hD
    clear f0 f1 f2 f3 f4 f5 f6 f7 f8
    have i0 := cell_of_heap HBx.out.i 0
    have i1 := cell_of_heap HBx.out.i 1
    have i3 := cell_of_heap HBx.out.i 3
    have s0 := cell_of_heap HBx.out.s 0
    have s1 := cell_of_heap HBx.out.s 1
    have s2 := cell_of_heap HBx.out.s 2
    simp at i0 i1 i3 s0 s1 s2
    go_wp2_with fail
    refine (more_calls n v p (0) (-1) _ (by have := HM.out; rw [wrap64]; omega) (by have := HM.out; rw [wrap64]; omega)).mono ?_
    rintro e X2 ⟨rfl, hb2⟩
    have HB2 := hid (HBx.out.bel.trans (hb2.mono HBx.out.bel.size))
    clear hb2 i0 i1 i3 s0 s1 s2 HBx
    go_wp2_with fail
    go_ret
    rw [HX.out]
    exact exits_one HB2.out (by first | rfl | simp)
  · have hB1 : Below W.heap.size W (W.drew.alloc (.cells #[.int .i64 0, .int .i64 0, .int .i64 0] 43)) := hD.alloc hD.size _
    have hB2 : Below W.heap.size W ((W.drew.alloc (.cells #[.int .i64 0, .int .i64 0, .int .i64 0] 43)).alloc (.cells #[.int .i64 0, .int .i64 0, .int .i64 0, .int .i64 0] 31)) := hB1.alloc hB1.size _
    refine ⟨_, .pointer (some ⟨W.heap.size, 0, none⟩), (W.drew.alloc (.cells #[.int .i64 0, .int .i64 0, .int .i64 0] 43)), rfl, rfl, by simp [go_sem], HCl.out _ hB1, ?_⟩
    refine pick_frame (by simp [go_sem]; exact rfl) ?_
    refine pick_make (i := 16) (v := .pointer (some ⟨W.heap.size + 1, 0, none⟩)) (w1 := ((W.drew.alloc (.cells #[.int .i64 0, .int .i64 0, .int .i64 0] 43)).alloc (.cells #[.int .i64 0, .int .i64 0, .int .i64 0, .int .i64 0] 31))) rfl (by kernel_rfl) rfl rfl (by simp [go_sem]) (HCl.out _ hB2) (by simp [go_sem]; exact rfl) ?_
    have g5 : ((W.drew.alloc (.cells #[.int .i64 0, .int .i64 0, .int .i64 0] 43)).alloc (.cells #[.int .i64 0, .int .i64 0, .int .i64 0, .int .i64 0] 31)).heap[W.heap.size + 1]? = some (.cells #[.int .i64 0, .int .i64 0, .int .i64 0, .int .i64 0] 31) := (two_new W.drew _ _).2
    have g6 : ((W.drew.alloc (.cells #[.int .i64 0, .int .i64 0, .int .i64 0] 43)).alloc (.cells #[.int .i64 0, .int .i64 0, .int .i64 0, .int .i64 0] 31)).heap[W.heap.size]? = some (.cells #[.int .i64 0, .int .i64 0, .int .i64 0] 43) := (two_new W.drew _ _).1
    have HBx := hid (boxed hB2 g5 g6 (by omega) (by omega) 8 a b c n v p)
    have HB4 : Hid (Below W.heap.size W (put4 ((W.drew.alloc (.cells #[.int .i64 0, .int .i64 0, .int .i64 0] 43)).alloc (.cells #[.int .i64 0, .int .i64 0, .int .i64 0, .int .i64 0] 31)) (W.heap.size + 1) (.int .i64 8) (.int .i64 a) (.int .i64 b) (.int .i64 c))) := by
      obtain ⟨p1, p2, p3, p4, p5, p6⟩ := put4_is g5 (.int .i64 8) (.int .i64 a) (.int .i64 b) (.int .i64 c)
      exact ⟨p4.trans hB2.os, p5.trans hB2.tape, p6.trans hB2.output, by rw [p3]; exact hB2.size, fun q hq => (p2 q (by omega)).trans (hB2.block q hq)⟩
    refine pick_skip (i := 18) rfl (w1 := put4 ((W.drew.alloc (.cells #[.int .i64 0, .int .i64 0, .int .i64 0] 43)).alloc (.cells #[.int .i64 0, .int .i64 0, .int .i64 0, .int .i64 0] 31)) (W.heap.size + 1) (.int .i64 8) (.int .i64 a) (.int .i64 b) (.int .i64 c)) rfl (by kernel_rfl) rfl rfl (by simp [go_sem, put4]) (HCl.out _ HB4.out) ?_
    refine pick_skip (i := 19) rfl (w1 := put3 (put4 ((W.drew.alloc (.cells #[.int .i64 0, .int .i64 0, .int .i64 0] 43)).alloc (.cells #[.int .i64 0, .int .i64 0, .int .i64 0, .int .i64 0] 31)) (W.heap.size + 1) (.int .i64 8) (.int .i64 a) (.int .i64 b) (.int .i64 c)) (W.heap.size) (.int .i64 n) (.int .i64 v) (.int .i64 p)) rfl (by kernel_rfl) rfl rfl (by simp [go_sem, put4, put3]) (HCl.out _ HBx.out.bel) ?_
    refine pick_make (i := 20) (v := .int .i64 ((k : Int) + 1)) (w1 := put3 (put4 ((W.drew.alloc (.cells #[.int .i64 0, .int .i64 0, .int .i64 0] 43)).alloc (.cells #[.int .i64 0, .int .i64 0, .int .i64 0, .int .i64 0] 31)) (W.heap.size + 1) (.int .i64 8) (.int .i64 a) (.int .i64 b) (.int .i64 c)) (W.heap.size) (.int .i64 n) (.int .i64 v) (.int .i64 p)) rfl (by kernel_rfl) rfl rfl (by simp [go_sem]) (HCl.out _ HBx.out.bel) (by simp [go_sem]; exact rfl) ?_
    refine pick_end (by kernel_rfl) ?_
    obtain ⟨X, hX⟩ : ∃ X, put3 (put4 ((W.drew.alloc (.cells #[.int .i64 0, .int .i64 0, .int .i64 0] 43)).alloc (.cells #[.int .i64 0, .int .i64 0, .int .i64 0, .int .i64 0] 31)) (W.heap.size + 1) (.int .i64 8) (.int .i64 a) (.int .i64 b) (.int .i64 c)) (W.heap.size) (.int .i64 n) (.int .i64 v) (.int .i64 p) = X := ⟨_, rfl⟩
    rw [hX] at HBx ⊢
    obtain ⟨b5, hb5⟩ : ∃ x, W.heap.size + 1 = x := ⟨_, rfl⟩
    obtain ⟨b6, hb6⟩ : ∃ x, W.heap.size = x := ⟨_, rfl⟩
    rw [hb5] at HBx ⊢
    rw [hb6] at HBx ⊢
    clear hX hb5 hb6 g5 g6 hB1 hB2 HB4 hS HCl hD
    clear f0 f1 f2 f3 f4 f5 f6 f7 f8
    have i0 := cell_of_heap HBx.out.i 0
    have i1 := cell_of_heap HBx.out.i 1
    have i3 := cell_of_heap HBx.out.i 3
    have s0 := cell_of_heap HBx.out.s 0
    have s1 := cell_of_heap HBx.out.s 1
    have s2 := cell_of_heap HBx.out.s 2
    simp at i0 i1 i3 s0 s1 s2
    go_wp2_with fail
    refine (more_calls n v p (0) (-1) _ (by have := HM.out; rw [wrap64]; omega) (by have := HM.out; rw [wrap64]; omega)).mono ?_
    rintro e X2 ⟨rfl, hb2⟩
    have HB2 := hid (HBx.out.bel.trans (hb2.mono HBx.out.bel.size))
    clear hb2 i0 i1 i3 s0 s1 s2 HBx
    go_wp2_with fail
    go_ret
    rw [HX.out]
    exact exits_one HB2.out (by first | rfl | simp)

set_option maxRecDepth 100000 in
set_option maxHeartbeats 8000000 in
theorem exits_14 {W : World} {Fb bc oc cc gs N k : Nat} {is : List In} {a b c n v p : Int} (hk0 : (0 : Int) ≤ (k : Int)) (hk1 : (k : Int) < (N : Int)) (hkN : k ≤ 1500) (hn0 : 0 ≤ n) (hn1 : n ≤ 100) (hv0 : 0 ≤ v) (hv1 : v ≤ 100) (f0 : W.cell? ⟨Fb, 0, none⟩ = some (.slice (some ⟨bc, oc, none⟩) N cc)) (f1 : W.cell? ⟨Fb, 1, none⟩ = some (.slice (some ⟨gs, 0, none⟩) N N)) (f2 : W.cell? ⟨bc, oc + k * 4, none⟩ = some (.int .i64 14)) (f3 : W.cell? ⟨bc, oc + k * 4 + 1, none⟩ = some (.int .i64 a)) (f4 : W.cell? ⟨bc, oc + k * 4 + 2, none⟩ = some (.int .i64 b)) (f5 : W.cell? ⟨bc, oc + k * 4 + 3, none⟩ = some (.int .i64 c)) (f6 : W.cell? ⟨gs, k * 3, none⟩ = some (.int .i64 n)) (f7 : W.cell? ⟨gs, k * 3 + 1, none⟩ = some (.int .i64 v)) (f8 : W.cell? ⟨gs, k * 3 + 2, none⟩ = some (.int .i64 p)) :
    Calls Tryz.prog 36 #[.pointer (some ⟨Fb, 0, none⟩), .int .i64 (k : Int)] W (ExitsP (exitsZ is k ⟨14, a, b, c⟩ ⟨n, v, p⟩) W) := by
  have hexz : exitsZ is k ⟨14, a, b, c⟩ ⟨n, v, p⟩ = [((k : Int) + 1, (⟨n + 0, v + (-1), p⟩ : Sq))] := by simp [exitsZ, Sq.more]
  have HX := hid hexz
  clear hexz
  have w1 : wrap64 ((k : Int) + 1) = (k : Int) + 1 := by rw [wrap64]; omega
  have w2 : wrap64 (n + 1) = n + 1 := by rw [wrap64]; omega
  have w3 : wrap64 (n + 2) = n + 2 := by rw [wrap64]; omega
  have HM : Hid (0 ≤ n ∧ n ≤ 100 ∧ 0 ≤ v ∧ v ≤ 100) := ⟨hn0, hn1, hv0, hv1⟩
  clear hn0 hn1 hv0 hv1 hkN
  go_enter Tryz.func36, Tryz.ntmps36
  go_wp2_with fail
  have hD : Below W.heap.size W W.drew := (Below.refl _ _).drew
  have HCl : Hid (∀ X, Below W.heap.size W X → (fun w' : World => w'.cell? ⟨Fb, 0, none⟩ = some (.slice (some ⟨bc, oc, none⟩) N cc) ∧ w'.cell? ⟨Fb, 1, none⟩ = some (.slice (some ⟨gs, 0, none⟩) N N) ∧ w'.cell? ⟨bc, oc + k * 4, none⟩ = some (.int .i64 14) ∧ w'.cell? ⟨bc, oc + k * 4 + 1, none⟩ = some (.int .i64 a) ∧ w'.cell? ⟨bc, oc + k * 4 + 2, none⟩ = some (.int .i64 b) ∧ w'.cell? ⟨bc, oc + k * 4 + 3, none⟩ = some (.int .i64 c) ∧ w'.cell? ⟨gs, k * 3, none⟩ = some (.int .i64 n) ∧ w'.cell? ⟨gs, k * 3 + 1, none⟩ = some (.int .i64 v) ∧ w'.cell? ⟨gs, k * 3 + 2, none⟩ = some (.int .i64 p)) X) := fun X hX => ⟨(hX.cell (block_in0 f0)).trans f0, (hX.cell (block_in0 f1)).trans f1, (hX.cell (block_in0 f2)).trans f2, (hX.cell (block_in0 f3)).trans f3, (hX.cell (block_in0 f4)).trans f4, (hX.cell (block_in0 f5)).trans f5, (hX.cell (block_in0 f6)).trans f6, (hX.cell (block_in0 f7)).trans f7, (hX.cell (block_in0 f8)).trans f8⟩
  have hS := HCl.out W.drew hD
  refine pick_begin (S := (fun w' : World => w'.cell? ⟨Fb, 0, none⟩ = some (.slice (some ⟨bc, oc, none⟩) N cc) ∧ w'.cell? ⟨Fb, 1, none⟩ = some (.slice (some ⟨gs, 0, none⟩) N N) ∧ w'.cell? ⟨bc, oc + k * 4, none⟩ = some (.int .i64 14) ∧ w'.cell? ⟨bc, oc + k * 4 + 1, none⟩ = some (.int .i64 a) ∧ w'.cell? ⟨bc, oc + k * 4 + 2, none⟩ = some (.int .i64 b) ∧ w'.cell? ⟨bc, oc + k * 4 + 3, none⟩ = some (.int .i64 c) ∧ w'.cell? ⟨gs, k * 3, none⟩ = some (.int .i64 n) ∧ w'.cell? ⟨gs, k * 3 + 1, none⟩ = some (.int .i64 v) ∧ w'.cell? ⟨gs, k * 3 + 2, none⟩ = some (.int .i64 p))) (by kernel_rfl) rfl rfl ?_
  refine pick_op (i := 0) (v := .pointer (some ⟨Fb, 0, none⟩)) (by kernel_rfl) rfl (by kernel_rfl) (by kernel_rfl) rfl rfl (fun w' _ => by simp [go_sem]) hS (by simp [go_sem]; exact rfl) ?_
  refine pick_op (i := 1) (v := .pointer (some ⟨Fb, 0, none⟩)) (by kernel_rfl) rfl (by kernel_rfl) (by kernel_rfl) rfl rfl (fun w' _ => by simp [go_sem]) hS (by simp [go_sem]; exact rfl) ?_
  refine pick_op (i := 2) (v := .pointer (some ⟨Fb, 0, none⟩)) (by kernel_rfl) rfl (by kernel_rfl) (by kernel_rfl) rfl rfl (fun w' _ => by simp [go_sem]) hS (by simp [go_sem]; exact rfl) ?_
  refine pick_op (i := 3) (v := .slice (some ⟨bc, oc, none⟩) N cc) (by kernel_rfl) rfl (by kernel_rfl) (by kernel_rfl) rfl rfl (fun w' h => by simp [go_sem, h.1]) hS (by simp [go_sem]; exact rfl) ?_
  refine pick_op (i := 4) (v := .int .i64 (k : Int)) (by kernel_rfl) rfl (by kernel_rfl) (by kernel_rfl) rfl rfl (fun w' _ => by simp [go_sem]) hS (by simp [go_sem]; exact rfl) ?_
  refine pick_op (i := 5) (v := .pointer (some ⟨bc, oc + k * 4, none⟩)) (by kernel_rfl) rfl (by kernel_rfl) (by kernel_rfl) rfl rfl (fun w' _ => by simp [go_sem, hk0, hk1]) hS (by simp [go_sem]; exact rfl) ?_
  refine pick_op (i := 6) (v := .agg #[.int .i64 14, .int .i64 a, .int .i64 b, .int .i64 c]) (by kernel_rfl) rfl (by kernel_rfl) (by kernel_rfl) rfl rfl (fun w' h => by simp [go_sem, h.2.2.1, h.2.2.2.1, h.2.2.2.2.1, h.2.2.2.2.2.1]) hS (by simp [go_sem]; exact rfl) ?_
  refine pick_op (i := 7) (v := .pointer (some ⟨Fb, 0, none⟩)) (by kernel_rfl) rfl (by kernel_rfl) (by kernel_rfl) rfl rfl (fun w' _ => by simp [go_sem]) hS (by simp [go_sem]; exact rfl) ?_
  refine pick_op (i := 8) (v := .pointer (some ⟨Fb, 0, none⟩)) (by kernel_rfl) rfl (by kernel_rfl) (by kernel_rfl) rfl rfl (fun w' _ => by simp [go_sem]) hS (by simp [go_sem]; exact rfl) ?_
  refine pick_op (i := 9) (v := .pointer (some ⟨Fb, 1, none⟩)) (by kernel_rfl) rfl (by kernel_rfl) (by kernel_rfl) rfl rfl (fun w' _ => by simp [go_sem]) hS (by simp [go_sem]; exact rfl) ?_
  refine pick_op (i := 10) (v := .slice (some ⟨gs, 0, none⟩) N N) (by kernel_rfl) rfl (by kernel_rfl) (by kernel_rfl) rfl rfl (fun w' h => by simp [go_sem, h.2.1]) hS (by simp [go_sem]; exact rfl) ?_
  refine pick_op (i := 11) (v := .int .i64 (k : Int)) (by kernel_rfl) rfl (by kernel_rfl) (by kernel_rfl) rfl rfl (fun w' _ => by simp [go_sem]) hS (by simp [go_sem]; exact rfl) ?_
  refine pick_op (i := 12) (v := .pointer (some ⟨gs, k * 3, none⟩)) (by kernel_rfl) rfl (by kernel_rfl) (by kernel_rfl) rfl rfl (fun w' _ => by simp [go_sem, hk0, hk1]) hS (by simp [go_sem]; exact rfl) ?_
  refine pick_op (i := 13) (v := .agg #[.int .i64 n, .int .i64 v, .int .i64 p]) (by kernel_rfl) rfl (by kernel_rfl) (by kernel_rfl) rfl rfl (fun w' h => by simp [go_sem, h.2.2.2.2.2.2.1, h.2.2.2.2.2.2.2.1, h.2.2.2.2.2.2.2.2]) hS (by simp [go_sem]; exact rfl) ?_
  refine pick_op (i := 14) (v := .int .i64 (k : Int)) (by kernel_rfl) rfl (by kernel_rfl) (by kernel_rfl) rfl rfl (fun w' _ => by simp [go_sem]) hS (by simp [go_sem]; exact rfl) ?_
  refine pick_op (i := 15) (v := .int .i64 ((k : Int) + 1)) (by kernel_rfl) rfl (by kernel_rfl) (by kernel_rfl) rfl rfl (fun w' _ => by simp [go_sem]; exact (IntWalk.i64_left _).trans w1) hS (by simp [go_sem]; exact rfl) ?_
  refine pick_fork (i := 16) (j := 17) (by kernel_rfl) ?_ ?_
  · have hB1 : Below W.heap.size W (W.drew.alloc (.cells #[.int .i64 0, .int .i64 0, .int .i64 0, .int .i64 0] 31)) := hD.alloc hD.size _
    have hB2 : Below W.heap.size W ((W.drew.alloc (.cells #[.int .i64 0, .int .i64 0, .int .i64 0, .int .i64 0] 31)).alloc (.cells #[.int .i64 0, .int .i64 0, .int .i64 0] 43)) := hB1.alloc hB1.size _
    refine ⟨_, .pointer (some ⟨W.heap.size, 0, none⟩), (W.drew.alloc (.cells #[.int .i64 0, .int .i64 0, .int .i64 0, .int .i64 0] 31)), rfl, rfl, by simp [go_sem], HCl.out _ hB1, ?_⟩
    refine pick_frame (by simp [go_sem]; exact rfl) ?_
    refine pick_make (i := 17) (v := .pointer (some ⟨W.heap.size + 1, 0, none⟩)) (w1 := ((W.drew.alloc (.cells #[.int .i64 0, .int .i64 0, .int .i64 0, .int .i64 0] 31)).alloc (.cells #[.int .i64 0, .int .i64 0, .int .i64 0] 43))) rfl (by kernel_rfl) rfl rfl (by simp [go_sem]) (HCl.out _ hB2) (by simp [go_sem]; exact rfl) ?_
    have g5 : ((W.drew.alloc (.cells #[.int .i64 0, .int .i64 0, .int .i64 0, .int .i64 0] 31)).alloc (.cells #[.int .i64 0, .int .i64 0, .int .i64 0] 43)).heap[W.heap.size]? = some (.cells #[.int .i64 0, .int .i64 0, .int .i64 0, .int .i64 0] 31) := (two_new W.drew _ _).1
    have g6 : ((W.drew.alloc (.cells #[.int .i64 0, .int .i64 0, .int .i64 0, .int .i64 0] 31)).alloc (.cells #[.int .i64 0, .int .i64 0, .int .i64 0] 43)).heap[W.heap.size + 1]? = some (.cells #[.int .i64 0, .int .i64 0, .int .i64 0] 43) := (two_new W.drew _ _).2
    have HBx := hid (boxed hB2 g5 g6 (by omega) (by omega) 14 a b c n v p)
    have HB4 : Hid (Below W.heap.size W (put4 ((W.drew.alloc (.cells #[.int .i64 0, .int .i64 0, .int .i64 0, .int .i64 0] 31)).alloc (.cells #[.int .i64 0, .int .i64 0, .int .i64 0] 43)) (W.heap.size) (.int .i64 14) (.int .i64 a) (.int .i64 b) (.int .i64 c))) := by
      obtain ⟨p1, p2, p3, p4, p5, p6⟩ := put4_is g5 (.int .i64 14) (.int .i64 a) (.int .i64 b) (.int .i64 c)
      exact ⟨p4.trans hB2.os, p5.trans hB2.tape, p6.trans hB2.output, by rw [p3]; exact hB2.size, fun q hq => (p2 q (by omega)).trans (hB2.block q hq)⟩
    refine pick_skip (i := 18) rfl (w1 := put4 ((W.drew.alloc (.cells #[.int .i64 0, .int .i64 0, .int .i64 0, .int .i64 0] 31)).alloc (.cells #[.int .i64 0, .int .i64 0, .int .i64 0] 43)) (W.heap.size) (.int .i64 14) (.int .i64 a) (.int .i64 b) (.int .i64 c)) rfl (by kernel_rfl) rfl rfl (by simp [go_sem, put4]) (HCl.out _ HB4.out) ?_
    refine pick_skip (i := 19) rfl (w1 := put3 (put4 ((W.drew.alloc (.cells #[.int .i64 0, .int .i64 0, .int .i64 0, .int .i64 0] 31)).alloc (.cells #[.int .i64 0, .int .i64 0, .int .i64 0] 43)) (W.heap.size) (.int .i64 14) (.int .i64 a) (.int .i64 b) (.int .i64 c)) (W.heap.size + 1) (.int .i64 n) (.int .i64 v) (.int .i64 p)) rfl (by kernel_rfl) rfl rfl (by simp [go_sem, put4, put3]) (HCl.out _ HBx.out.bel) ?_
    refine pick_make (i := 20) (v := .int .i64 ((k : Int) + 1)) (w1 := put3 (put4 ((W.drew.alloc (.cells #[.int .i64 0, .int .i64 0, .int .i64 0, .int .i64 0] 31)).alloc (.cells #[.int .i64 0, .int .i64 0, .int .i64 0] 43)) (W.heap.size) (.int .i64 14) (.int .i64 a) (.int .i64 b) (.int .i64 c)) (W.heap.size + 1) (.int .i64 n) (.int .i64 v) (.int .i64 p)) rfl (by kernel_rfl) rfl rfl (by simp [go_sem]) (HCl.out _ HBx.out.bel) (by simp [go_sem]; exact rfl) ?_
    refine pick_end (by kernel_rfl) ?_
    obtain ⟨X, hX⟩ : ∃ X, put3 (put4 ((W.drew.alloc (.cells #[.int .i64 0, .int .i64 0, .int .i64 0, .int .i64 0] 31)).alloc (.cells #[.int .i64 0, .int .i64 0, .int .i64 0] 43)) (W.heap.size) (.int .i64 14) (.int .i64 a) (.int .i64 b) (.int .i64 c)) (W.heap.size + 1) (.int .i64 n) (.int .i64 v) (.int .i64 p) = X := ⟨_, rfl⟩
    rw [hX] at HBx ⊢
    obtain ⟨b5, hb5⟩ : ∃ x, W.heap.size = x := ⟨_, rfl⟩
    obtain ⟨b6, hb6⟩ : ∃ x, W.heap.size + 1 = x := ⟨_, rfl⟩
    rw [hb6] at HBx ⊢
    rw [hb5] at HBx ⊢
    clear hX hb5 hb6 g5 g6 hB1 hB2 HB4 hS HCl hD
    clear f0 f1 f2 f3 f4 f5 f6 f7 f8
    have i0 := cell_of_heap HBx.out.i 0
    have i1 := cell_of_heap HBx.out.i 1
    have i3 := cell_of_heap HBx.out.i 3
    have s0 := cell_of_heap HBx.out.s 0
    have s1 := cell_of_heap HBx.out.s 1
    have s2 := cell_of_heap HBx.out.s 2
    simp at i0 i1 i3 s0 s1 s2
    go_wp2_with fail
    refine (more_calls n v p (0) (-1) _ (by have := HM.out; rw [wrap64]; omega) (by have := HM.out; rw [wrap64]; omega)).mono ?_
    rintro e X2 ⟨rfl, hb2⟩
    have HB2 := hid (HBx.out.bel.trans (hb2.mono HBx.out.bel.size))
    clear hb2 i0 i1 i3 s0 s1 s2 HBx
    go_wp2_with fail
    go_ret
    rw [HX.out]
    exact exits_one HB2.out (by first | rfl | simp)
  · have hB1 : Below W.heap.size W (W.drew.alloc (.cells #[.int .i64 0, .int .i64 0, .int .i64 0] 43)) := hD.alloc hD.size _
    have hB2 : Below W.heap.size W ((W.drew.alloc (.cells #[.int .i64 0, .int .i64 0, .int .i64 0] 43)).alloc (.cells #[.int .i64 0, .int .i64 0, .int .i64 0, .int .i64 0] 31)) := hB1.alloc hB1.size _
    refine ⟨_, .pointer (some ⟨W.heap.size, 0, none⟩), (W.drew.alloc (.cells #[.int .i64 0, .int .i64 0, .int .i64 0] 43)), rfl, rfl, by simp [go_sem], HCl.out _ hB1, ?_⟩
    refine pick_frame (by simp [go_sem]; exact rfl) ?_
    refine pick_make (i := 16) (v := .pointer (some ⟨W.heap.size + 1, 0, none⟩)) (w1 := ((W.drew.alloc (.cells #[.int .i64 0, .int .i64 0, .int .i64 0] 43)).alloc (.cells #[.int .i64 0, .int .i64 0, .int .i64 0, .int .i64 0] 31))) rfl (by kernel_rfl) rfl rfl (by simp [go_sem]) (HCl.out _ hB2) (by simp [go_sem]; exact rfl) ?_
    have g5 : ((W.drew.alloc (.cells #[.int .i64 0, .int .i64 0, .int .i64 0] 43)).alloc (.cells #[.int .i64 0, .int .i64 0, .int .i64 0, .int .i64 0] 31)).heap[W.heap.size + 1]? = some (.cells #[.int .i64 0, .int .i64 0, .int .i64 0, .int .i64 0] 31) := (two_new W.drew _ _).2
    have g6 : ((W.drew.alloc (.cells #[.int .i64 0, .int .i64 0, .int .i64 0] 43)).alloc (.cells #[.int .i64 0, .int .i64 0, .int .i64 0, .int .i64 0] 31)).heap[W.heap.size]? = some (.cells #[.int .i64 0, .int .i64 0, .int .i64 0] 43) := (two_new W.drew _ _).1
    have HBx := hid (boxed hB2 g5 g6 (by omega) (by omega) 14 a b c n v p)
    have HB4 : Hid (Below W.heap.size W (put4 ((W.drew.alloc (.cells #[.int .i64 0, .int .i64 0, .int .i64 0] 43)).alloc (.cells #[.int .i64 0, .int .i64 0, .int .i64 0, .int .i64 0] 31)) (W.heap.size + 1) (.int .i64 14) (.int .i64 a) (.int .i64 b) (.int .i64 c))) := by
      obtain ⟨p1, p2, p3, p4, p5, p6⟩ := put4_is g5 (.int .i64 14) (.int .i64 a) (.int .i64 b) (.int .i64 c)
      exact ⟨p4.trans hB2.os, p5.trans hB2.tape, p6.trans hB2.output, by rw [p3]; exact hB2.size, fun q hq => (p2 q (by omega)).trans (hB2.block q hq)⟩
    refine pick_skip (i := 18) rfl (w1 := put4 ((W.drew.alloc (.cells #[.int .i64 0, .int .i64 0, .int .i64 0] 43)).alloc (.cells #[.int .i64 0, .int .i64 0, .int .i64 0, .int .i64 0] 31)) (W.heap.size + 1) (.int .i64 14) (.int .i64 a) (.int .i64 b) (.int .i64 c)) rfl (by kernel_rfl) rfl rfl (by simp [go_sem, put4]) (HCl.out _ HB4.out) ?_
    refine pick_skip (i := 19) rfl (w1 := put3 (put4 ((W.drew.alloc (.cells #[.int .i64 0, .int .i64 0, .int .i64 0] 43)).alloc (.cells #[.int .i64 0, .int .i64 0, .int .i64 0, .int .i64 0] 31)) (W.heap.size + 1) (.int .i64 14) (.int .i64 a) (.int .i64 b) (.int .i64 c)) (W.heap.size) (.int .i64 n) (.int .i64 v) (.int .i64 p)) rfl (by kernel_rfl) rfl rfl (by simp [go_sem, put4, put3]) (HCl.out _ HBx.out.bel) ?_
    refine pick_make (i := 20) (v := .int .i64 ((k : Int) + 1)) (w1 := put3 (put4 ((W.drew.alloc (.cells #[.int .i64 0, .int .i64 0, .int .i64 0] 43)).alloc (.cells #[.int .i64 0, .int .i64 0, .int .i64 0, .int .i64 0] 31)) (W.heap.size + 1) (.int .i64 14) (.int .i64 a) (.int .i64 b) (.int .i64 c)) (W.heap.size) (.int .i64 n) (.int .i64 v) (.int .i64 p)) rfl (by kernel_rfl) rfl rfl (by simp [go_sem]) (HCl.out _ HBx.out.bel) (by simp [go_sem]; exact rfl) ?_
    refine pick_end (by kernel_rfl) ?_
    obtain ⟨X, hX⟩ : ∃ X, put3 (put4 ((W.drew.alloc (.cells #[.int .i64 0, .int .i64 0, .int .i64 0] 43)).alloc (.cells #[.int .i64 0, .int .i64 0, .int .i64 0, .int .i64 0] 31)) (W.heap.size + 1) (.int .i64 14) (.int .i64 a) (.int .i64 b) (.int .i64 c)) (W.heap.size) (.int .i64 n) (.int .i64 v) (.int .i64 p) = X := ⟨_, rfl⟩
    rw [hX] at HBx ⊢
    obtain ⟨b5, hb5⟩ : ∃ x, W.heap.size + 1 = x := ⟨_, rfl⟩
    obtain ⟨b6, hb6⟩ : ∃ x, W.heap.size = x := ⟨_, rfl⟩
    rw [hb5] at HBx ⊢
    rw [hb6] at HBx ⊢
    clear hX hb5 hb6 g5 g6 hB1 hB2 HB4 hS HCl hD
    clear f0 f1 f2 f3 f4 f5 f6 f7 f8
    have i0 := cell_of_heap HBx.out.i 0
    have i1 := cell_of_heap HBx.out.i 1
    have i3 := cell_of_heap HBx.out.i 3
    have s0 := cell_of_heap HBx.out.s 0
    have s1 := cell_of_heap HBx.out.s 1
    have s2 := cell_of_heap HBx.out.s 2
    simp at i0 i1 i3 s0 s1 s2
    go_wp2_with fail
    refine (more_calls n v p (0) (-1) _ (by have := HM.out; rw [wrap64]; omega) (by have := HM.out; rw [wrap64]; omega)).mono ?_
    rintro e X2 ⟨rfl, hb2⟩
    have HB2 := hid (HBx.out.bel.trans (hb2.mono HBx.out.bel.size))
    clear hb2 i0 i1 i3 s0 s1 s2 HBx
    go_wp2_with fail
    go_ret
    rw [HX.out]
    exact exits_one HB2.out (by first | rfl | simp)
end Go.Proofs.YtfmkgppkgmjpfaaGreatDoor
