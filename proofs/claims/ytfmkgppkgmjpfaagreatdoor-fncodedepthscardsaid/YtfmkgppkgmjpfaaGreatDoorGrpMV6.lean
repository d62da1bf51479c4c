/- What an instruction comes to, in the program, op by op. -/
import Derived.Test.YtfmkgppkgmjpfaaGreatDoorGrpMV5
import Derived.Maps.AppendAt
namespace Go.Proofs.YtfmkgppkgmjpfaaGreatDoor
open Go.RowKit Go.Conc

set_option maxRecDepth 100000 in
set_option maxHeartbeats 8000000 in
theorem exits_6 {W : World} {Fb bc oc cc gs N k : Nat} {is : List In} {a b c n v p : Int} (hk0 : (0 : Int) ≤ (k : Int)) (hk1 : (k : Int) < (N : Int)) (hkN : k ≤ 1500) (hn0 : 0 ≤ n) (hn1 : n ≤ 100) (hv0 : 0 ≤ v) (hv1 : v ≤ 100) (f0 : W.cell? ⟨Fb, 0, none⟩ = some (.slice (some ⟨bc, oc, none⟩) N cc)) (f1 : W.cell? ⟨Fb, 1, none⟩ = some (.slice (some ⟨gs, 0, none⟩) N N)) (f2 : W.cell? ⟨bc, oc + k * 4, none⟩ = some (.int .i64 6)) (f3 : W.cell? ⟨bc, oc + k * 4 + 1, none⟩ = some (.int .i64 a)) (f4 : W.cell? ⟨bc, oc + k * 4 + 2, none⟩ = some (.int .i64 b)) (f5 : W.cell? ⟨bc, oc + k * 4 + 3, none⟩ = some (.int .i64 c)) (f6 : W.cell? ⟨gs, k * 3, none⟩ = some (.int .i64 n)) (f7 : W.cell? ⟨gs, k * 3 + 1, none⟩ = some (.int .i64 v)) (f8 : W.cell? ⟨gs, k * 3 + 2, none⟩ = some (.int .i64 p)) :
    Calls Tryz.prog 36 #[.pointer (some ⟨Fb, 0, none⟩), .int .i64 (k : Int)] W (ExitsP (exitsZ is k ⟨6, a, b, c⟩ ⟨n, v, p⟩) W) := by
  have hexz : exitsZ is k ⟨6, a, b, c⟩ ⟨n, v, p⟩ = [(a, (⟨n + 1, 0, 2⟩ : Sq)), ((k : Int) + 1, (⟨n + 0, v + 1, p⟩ : Sq))] := by simp [exitsZ, Sq.more]
  have HX := hid hexz
  clear hexz
  have w1 : wrap64 ((k : Int) + 1) = (k : Int) + 1 := by rw [wrap64]; omega
  have w2 : wrap64 (n + 1) = n + 1 := by rw [wrap64]; omega
  have w3 : wrap64 (n + 2) = n + 2 := by rw [wrap64]; omega
  have HM : Hid (0 ≤ n ∧ n ≤ 100 ∧ 0 ≤ v ∧ v ≤ 100) := ⟨hn0, hn1, hv0, hv1⟩
  clear hn0 hn1 hv0 hv1 hkN
  go_enter Tryz.func36, Tryz.ntmps36
  go_wp2_with fail
  have hD : Below W.heap.size W W.drew := (Below.refl _ _).drew
  have HCl : Hid (∀ X, Below W.heap.size W X → (fun w' : World => w'.cell? ⟨Fb, 0, none⟩ = some (.slice (some ⟨bc, oc, none⟩) N cc) ∧ w'.cell? ⟨Fb, 1, none⟩ = some (.slice (some ⟨gs, 0, none⟩) N N) ∧ w'.cell? ⟨bc, oc + k * 4, none⟩ = some (.int .i64 6) ∧ w'.cell? ⟨bc, oc + k * 4 + 1, none⟩ = some (.int .i64 a) ∧ w'.cell? ⟨bc, oc + k * 4 + 2, none⟩ = some (.int .i64 b) ∧ w'.cell? ⟨bc, oc + k * 4 + 3, none⟩ = some (.int .i64 c) ∧ w'.cell? ⟨gs, k * 3, none⟩ = some (.int .i64 n) ∧ w'.cell? ⟨gs, k * 3 + 1, none⟩ = some (.int .i64 v) ∧ w'.cell? ⟨gs, k * 3 + 2, none⟩ = some (.int .i64 p)) X) := fun X hX => ⟨(hX.cell (block_in0 f0)).trans f0, (hX.cell (block_in0 f1)).trans f1, (hX.cell (block_in0 f2)).trans f2, (hX.cell (block_in0 f3)).trans f3, (hX.cell (block_in0 f4)).trans f4, (hX.cell (block_in0 f5)).trans f5, (hX.cell (block_in0 f6)).trans f6, (hX.cell (block_in0 f7)).trans f7, (hX.cell (block_in0 f8)).trans f8⟩
  have hS := HCl.out W.drew hD
  refine pick_begin (S := (fun w' : World => w'.cell? ⟨Fb, 0, none⟩ = some (.slice (some ⟨bc, oc, none⟩) N cc) ∧ w'.cell? ⟨Fb, 1, none⟩ = some (.slice (some ⟨gs, 0, none⟩) N N) ∧ w'.cell? ⟨bc, oc + k * 4, none⟩ = some (.int .i64 6) ∧ w'.cell? ⟨bc, oc + k * 4 + 1, none⟩ = some (.int .i64 a) ∧ w'.cell? ⟨bc, oc + k * 4 + 2, none⟩ = some (.int .i64 b) ∧ w'.cell? ⟨bc, oc + k * 4 + 3, none⟩ = some (.int .i64 c) ∧ w'.cell? ⟨gs, k * 3, none⟩ = some (.int .i64 n) ∧ w'.cell? ⟨gs, k * 3 + 1, none⟩ = some (.int .i64 v) ∧ w'.cell? ⟨gs, k * 3 + 2, none⟩ = some (.int .i64 p))) (by kernel_rfl) rfl rfl ?_
  refine pick_op (i := 0) (v := .pointer (some ⟨Fb, 0, none⟩)) (by kernel_rfl) rfl (by kernel_rfl) (by kernel_rfl) rfl rfl (fun w' _ => by simp [go_sem]) hS (by simp [go_sem]; exact rfl) ?_
  refine pick_op (i := 1) (v := .pointer (some ⟨Fb, 0, none⟩)) (by kernel_rfl) rfl (by kernel_rfl) (by kernel_rfl) rfl rfl (fun w' _ => by simp [go_sem]) hS (by simp [go_sem]; exact rfl) ?_
  refine pick_op (i := 2) (v := .pointer (some ⟨Fb, 0, none⟩)) (by kernel_rfl) rfl (by kernel_rfl) (by kernel_rfl) rfl rfl (fun w' _ => by simp [go_sem]) hS (by simp [go_sem]; exact rfl) ?_
  refine pick_op (i := 3) (v := .slice (some ⟨bc, oc, none⟩) N cc) (by kernel_rfl) rfl (by kernel_rfl) (by kernel_rfl) rfl rfl (fun w' h => by simp [go_sem, h.1]) hS (by simp [go_sem]; exact rfl) ?_
  refine pick_op (i := 4) (v := .int .i64 (k : Int)) (by kernel_rfl) rfl (by kernel_rfl) (by kernel_rfl) rfl rfl (fun w' _ => by simp [go_sem]) hS (by simp [go_sem]; exact rfl) ?_
  refine pick_op (i := 5) (v := .pointer (some ⟨bc, oc + k * 4, none⟩)) (by kernel_rfl) rfl (by kernel_rfl) (by kernel_rfl) rfl rfl (fun w' _ => by simp [go_sem, hk0, hk1]) hS (by simp [go_sem]; exact rfl) ?_
  refine pick_op (i := 6) (v := .agg #[.int .i64 6, .int .i64 a, .int .i64 b, .int .i64 c]) (by kernel_rfl) rfl (by kernel_rfl) (by kernel_rfl) rfl rfl (fun w' h => by simp [go_sem, h.2.2.1, h.2.2.2.1, h.2.2.2.2.1, h.2.2.2.2.2.1]) hS (by simp [go_sem]; exact rfl) ?_
  refine pick_op (i := 7) (v := .pointer (some ⟨Fb, 0, none⟩)) (by kernel_rfl) rfl (by kernel_rfl) (by kernel_rfl) rfl rfl (fun w' _ => by simp [go_sem]) hS (by simp [go_sem]; exact rfl) ?_
  refine pick_op (i := 8) (v := .pointer (some ⟨Fb, 0, none⟩)) (by kernel_rfl) rfl (by kernel_rfl) (by kernel_rfl) rfl rfl (fun w' _ => by simp [go_sem]) hS (by simp [go_sem]; exact rfl) ?_
  refine pick_op (i := 9) (v := .pointer (some ⟨Fb, 1, none⟩)) (by kernel_rfl) rfl (by kernel_rfl) (by kernel_rfl) rfl rfl (fun w' _ => by simp [go_sem]) hS (by simp [go_sem]; exact rfl) ?_
  refine pick_op (i := 10) (v := .slice (some ⟨gs, 0, none⟩) N N) (by kernel_rfl) rfl (by kernel_rfl) (by kernel_rfl) rfl rfl (fun w' h => by simp [go_sem, h.2.1]) hS (by simp [go_sem]; exact rfl) ?_
  refine pick_op (i := 11) (v := .int .i64 (k : Int)) (by kernel_rfl) rfl (by kernel_rfl) (by kernel_rfl) rfl rfl (fun w' _ => by simp [go_sem]) hS (by simp [go_sem]; exact rfl) ?_
  refine pick_op (i := 12) (v := .pointer (some ⟨gs, k * 3, none⟩)) (by kernel_rfl) rfl (by kernel_rfl) (by kernel_rfl) rfl rfl (fun w' _ => by simp [go_sem, hk0, hk1]) hS (by simp [go_sem]; exact rfl) ?_
  refine pick_op (i := 13) (v := .agg #[.int .i64 n, .int .i64 v, .int .i64 p]) (by kernel_rfl) rfl (by kernel_rfl) (by kernel_rfl) rfl rfl (fun w' h => by simp [go_sem, h.2.2.2.2.2.2.1, h.2.2.2.2.2.2.2.1, h.2.2.2.2.2.2.2.2]) hS (by simp [go_sem]; exact rfl) ?_
  refine pick_op (i := 14) (v := .int .i64 (k : Int)) (by kernel_rfl) rfl (by kernel_rfl) (by kernel_rfl) rfl rfl (fun w' _ => by simp [go_sem]) hS (by simp [go_sem]; exact rfl) ?_
  refine pick_op (i := 15) (v := .int .i64 ((k : Int) + 1)) (by kernel_rfl) rfl (by kernel_rfl) (by kernel_rfl) rfl rfl (fun w' _ => by simp [go_sem]; exact (IntWalk.i64_left _).trans w1) hS (by simp [go_sem]; exact rfl) ?_
  refine pick_fork (i := 16) (j := 17) (by kernel_rfl) ?_ ?_
  · have hB1 : Below W.heap.size W (W.drew.alloc (.cells #[.int .i64 0, .int .i64 0, .int .i64 0, .int .i64 0] 31)) := hD.alloc hD.size _
    have hB2 : Below W.heap.size W ((W.drew.alloc (.cells #[.int .i64 0, .int .i64 0, .int .i64 0, .int .i64 0] 31)).alloc (.cells #[.int .i64 0, .int .i64 0, .int .i64 0] 43)) := hB1.alloc hB1.size _
    refine ⟨_, .pointer (some ⟨W.heap.size, 0, none⟩), (W.drew.alloc (.cells #[.int .i64 0, .int .i64 0, .int .i64 0, .int .i64 0] 31)), rfl, rfl, by simp [go_sem], HCl.out _ hB1, ?_⟩
    refine pick_frame (by simp [go_sem]; exact rfl) ?_
    refine pick_make (i := 17) (v := .pointer (some ⟨W.heap.size + 1, 0, none⟩)) (w1 := ((W.drew.alloc (.cells #[.int .i64 0, .int .i64 0, .int .i64 0, .int .i64 0] 31)).alloc (.cells #[.int .i64 0, .int .i64 0, .int .i64 0] 43))) rfl (by kernel_rfl) rfl rfl (by simp [go_sem]) (HCl.out _ hB2) (by simp [go_sem]; exact rfl) ?_
    have g5 : ((W.drew.alloc (.cells #[.int .i64 0, .int .i64 0, .int .i64 0, .int .i64 0] 31)).alloc (.cells #[.int .i64 0, .int .i64 0, .int .i64 0] 43)).heap[W.heap.size]? = some (.cells #[.int .i64 0, .int .i64 0, .int .i64 0, .int .i64 0] 31) := (two_new W.drew _ _).1
    have g6 : ((W.drew.alloc (.cells #[.int .i64 0, .int .i64 0, .int .i64 0, .int .i64 0] 31)).alloc (.cells #[.int .i64 0, .int .i64 0, .int .i64 0] 43)).heap[W.heap.size + 1]? = some (.cells #[.int .i64 0, .int .i64 0, .int .i64 0] 43) := (two_new W.drew _ _).2
    have HBx := hid (boxed hB2 g5 g6 (by omega) (by omega) 6 a b c n v p)
    have HB4 : Hid (Below W.heap.size W (put4 ((W.drew.alloc (.cells #[.int .i64 0, .int .i64 0, .int .i64 0, .int .i64 0] 31)).alloc (.cells #[.int .i64 0, .int .i64 0, .int .i64 0] 43)) (W.heap.size) (.int .i64 6) (.int .i64 a) (.int .i64 b) (.int .i64 c))) := by
      obtain ⟨p1, p2, p3, p4, p5, p6⟩ := put4_is g5 (.int .i64 6) (.int .i64 a) (.int .i64 b) (.int .i64 c)
      exact ⟨p4.trans hB2.os, p5.trans hB2.tape, p6.trans hB2.output, by rw [p3]; exact hB2.size, fun q hq => (p2 q (by omega)).trans (hB2.block q hq)⟩
    refine pick_skip (i := 18) rfl (w1 := put4 ((W.drew.alloc (.cells #[.int .i64 0, .int .i64 0, .int .i64 0, .int .i64 0] 31)).alloc (.cells #[.int .i64 0, .int .i64 0, .int .i64 0] 43)) (W.heap.size) (.int .i64 6) (.int .i64 a) (.int .i64 b) (.int .i64 c)) rfl (by kernel_rfl) rfl rfl (by simp [go_sem, put4]) (HCl.out _ HB4.out) ?_
    refine pick_skip (i := 19) rfl (w1 := put3 (put4 ((W.drew.alloc (.cells #[.int .i64 0, .int .i64 0, .int .i64 0, .int .i64 0] 31)).alloc (.cells #[.int .i64 0, .int .i64 0, .int .i64 0] 43)) (W.heap.size) (.int .i64 6) (.int .i64 a) (.int .i64 b) (.int .i64 c)) (W.heap.size + 1) (.int .i64 n) (.int .i64 v) (.int .i64 p)) rfl (by kernel_rfl) rfl rfl (by simp [go_sem, put4, put3]) (HCl.out _ HBx.out.bel) ?_
    refine pick_make (i := 20) (v := .int .i64 ((k : Int) + 1)) (w1 := put3 (put4 ((W.drew.alloc (.cells #[.int .i64 0, .int .i64 0, .int .i64 0, .int .i64 0] 31)).alloc (.cells #[.int .i64 0, .int .i64 0, .int .i64 0] 43)) (W.heap.size) (.int .i64 6) (.int .i64 a) (.int .i64 b) (.int .i64 c)) (W.heap.size + 1) (.int .i64 n) (.int .i64 v) (.int .i64 p)) rfl (by kernel_rfl) rfl rfl (by simp [go_sem]) (HCl.out _ HBx.out.bel) (by simp [go_sem]; exact rfl) ?_
    refine pick_end (by kernel_rfl) ?_
    obtain ⟨X, hX⟩ : ∃ X, put3 (put4 ((W.drew.alloc (.cells #[.int .i64 0, .int .i64 0, .int .i64 0, .int .i64 0] 31)).alloc (.cells #[.int .i64 0, .int .i64 0, .int .i64 0] 43)) (W.heap.size) (.int .i64 6) (.int .i64 a) (.int .i64 b) (.int .i64 c)) (W.heap.size + 1) (.int .i64 n) (.int .i64 v) (.int .i64 p) = X := ⟨_, rfl⟩
    rw [hX] at HBx ⊢
    obtain ⟨b5, hb5⟩ : ∃ x, W.heap.size = x := ⟨_, rfl⟩
    obtain ⟨b6, hb6⟩ : ∃ x, W.heap.size + 1 = x := ⟨_, rfl⟩
    rw [hb6] at HBx ⊢
    rw [hb5] at HBx ⊢
    clear hX hb5 hb6 g5 g6 hB1 hB2 HB4 hS HCl hD
    clear f0 f1 f2 f3 f4 f5 f6 f7 f8
    have i0 := cell_of_heap HBx.out.i 0
    have i1 := cell_of_heap HBx.out.i 1
    have i3 := cell_of_heap HBx.out.i 3
    have s0 := cell_of_heap HBx.out.s 0
    have s1 := cell_of_heap HBx.out.s 1
    have s2 := cell_of_heap HBx.out.s 2
    simp at i0 i1 i3 s0 s1 s2
    go_wp2_with fail
    have HCl : Hid (∀ Z, Below X.heap.size X Z → (fun w' : World => w'.cell? ⟨b5, 1, none⟩ = some (.int .i64 a) ∧ w'.cell? ⟨b6, 0, none⟩ = some (.int .i64 n) ∧ w'.cell? ⟨b6, 1, none⟩ = some (.int .i64 v) ∧ w'.cell? ⟨b6, 2, none⟩ = some (.int .i64 p)) Z) := fun Z hZ => ⟨(hZ.cell (block_in0 i1)).trans i1, (hZ.cell (block_in0 s0)).trans s0, (hZ.cell (block_in0 s1)).trans s1, (hZ.cell (block_in0 s2)).trans s2⟩
    have HD : Hid (Below X.heap.size X X.drew) := (Below.refl _ _).drew
    have hS := HCl.out _ HD.out
    clear i0 i1 i3 s0 s1 s2
    refine pick_begin (S := (fun w' : World => w'.cell? ⟨b5, 1, none⟩ = some (.int .i64 a) ∧ w'.cell? ⟨b6, 0, none⟩ = some (.int .i64 n) ∧ w'.cell? ⟨b6, 1, none⟩ = some (.int .i64 v) ∧ w'.cell? ⟨b6, 2, none⟩ = some (.int .i64 p))) (by kernel_rfl) rfl rfl ?_
    refine pick_op (i := 0) (v := .pointer (some ⟨b5, 1, none⟩)) (by kernel_rfl) rfl (by kernel_rfl) (by kernel_rfl) rfl rfl (fun w' _ => by simp [go_sem]) hS (by simp [go_sem]; exact rfl) ?_
    refine pick_op (i := 1) (v := .int .i64 a) (by kernel_rfl) rfl (by kernel_rfl) (by kernel_rfl) rfl rfl (fun w' h => by simp [go_sem, h.1]) hS (by simp [go_sem]; exact rfl) ?_
    refine pick_op (i := 2) (v := .pointer (some ⟨b6, 0, none⟩)) (by kernel_rfl) rfl (by kernel_rfl) (by kernel_rfl) rfl rfl (fun w' _ => by simp [go_sem]) hS (by simp [go_sem]; exact rfl) ?_
    refine pick_op (i := 3) (v := .int .i64 n) (by kernel_rfl) rfl (by kernel_rfl) (by kernel_rfl) rfl rfl (fun w' h => by simp [go_sem, h.2.1]) hS (by simp [go_sem]; exact rfl) ?_
    refine pick_op (i := 4) (v := .int .i64 (n + 1)) (by kernel_rfl) rfl (by kernel_rfl) (by kernel_rfl) rfl rfl (fun w' _ => by simp [go_sem]; exact (IntWalk.i64_left _).trans w2) hS (by simp [go_sem]; exact rfl) ?_
    refine pick_op (i := 7) (v := .int .i64 ((k : Int) + 1)) (by kernel_rfl) rfl (by kernel_rfl) (by kernel_rfl) rfl rfl (fun w' _ => by simp [go_sem]) hS (by simp [go_sem]; exact rfl) ?_
    refine pick_op (i := 8) (v := .agg #[.int .i64 n, .int .i64 v, .int .i64 p]) (by kernel_rfl) rfl (by kernel_rfl) (by kernel_rfl) rfl rfl (fun w' h => by simp [go_sem, h.2.1, h.2.2.1, h.2.2.2]) hS (by simp [go_sem]; exact rfl) ?_
    refine pick_enter (i := 5) (f := 67) (args := #[.int .i64 (n + 1)]) rfl (by kernel_rfl) rfl rfl (by simp [go_sem]) ?_
    refine (inFunction_calls (n + 1) _).mono ?_
    rintro e X1 ⟨rfl, hbx⟩
    have HX1 := hid (HD.out.trans (hbx.mono HD.out.size))
    clear hbx hS
    have hS := HCl.out _ HX1.out
    refine ⟨_, rfl, hS, ?_⟩
    refine pick_frame (by simp [go_sem]; exact rfl) ?_
    refine pick_op (i := 6) (v := .agg #[.int .i64 a, .int .i64 (n + 1), .int .i64 0, .int .i64 2]) (by kernel_rfl) rfl (by kernel_rfl) (by kernel_rfl) rfl rfl (fun w' _ => by simp [go_sem]) hS (by simp [go_sem]; exact rfl) ?_
    refine pick_enter (i := 9) (f := 66) (args := #[.agg #[.int .i64 n, .int .i64 v, .int .i64 p], .int .i64 0, .int .i64 1]) rfl (by kernel_rfl) rfl rfl (by simp [go_sem]) ?_
    refine (more_calls n v p (0) (1) _ (by have := HM.out; rw [wrap64]; omega) (by have := HM.out; rw [wrap64]; omega)).mono ?_
    rintro e X2 ⟨rfl, hbx⟩
    have HX2 := hid (HX1.out.trans (hbx.mono HX1.out.size))
    clear hbx hS
    have hS := HCl.out _ HX2.out
    refine ⟨_, rfl, hS, ?_⟩
    refine pick_frame (by simp [go_sem]; exact rfl) ?_
    refine pick_op (i := 10) (v := .agg #[.int .i64 ((k : Int) + 1), .int .i64 (n + 0), .int .i64 (v + 1), .int .i64 p]) (by kernel_rfl) rfl (by kernel_rfl) (by kernel_rfl) rfl rfl (fun w' _ => by simp [go_sem]) hS (by simp [go_sem]; exact rfl) ?_
    have HA3 : Hid (Below X.heap.size X (X2.alloc (.cells #[.int .i64 a, .int .i64 (n + 1), .int .i64 0, .int .i64 2, .int .i64 ((k : Int) + 1), .int .i64 (n + 0), .int .i64 (v + 1), .int .i64 p] 67))) := HX2.out.alloc HX2.out.size _
    refine pick_make (i := 11) (v := .slice (some ⟨X2.heap.size, 0, none⟩) 2 2) (w1 := X2.alloc (.cells #[.int .i64 a, .int .i64 (n + 1), .int .i64 0, .int .i64 2, .int .i64 ((k : Int) + 1), .int .i64 (n + 0), .int .i64 (v + 1), .int .i64 p] 67)) rfl (by kernel_rfl) rfl rfl (by simp [go_sem]) (HCl.out _ HA3.out) (by simp [go_sem]; exact rfl) ?_
    refine pick_make (i := 12) (v := .slice (some ⟨X2.heap.size, 0, none⟩) 2 2) (w1 := X2.alloc (.cells #[.int .i64 a, .int .i64 (n + 1), .int .i64 0, .int .i64 2, .int .i64 ((k : Int) + 1), .int .i64 (n + 0), .int .i64 (v + 1), .int .i64 p] 67)) rfl (by kernel_rfl) rfl rfl (by simp [go_sem]) (HCl.out _ HA3.out) (by simp [go_sem]; exact rfl) ?_
    refine pick_end (by kernel_rfl) ?_
    have HE := hid (exits_two (W := W) (X := X2) (t := a) (n := (n + 1)) (v := 0) (p := 2) (t' := ((k : Int) + 1)) (n' := (n + 0)) (v' := (v + 1)) (p' := p) (HBx.out.bel.trans (HX2.out.mono HBx.out.bel.size)) rfl rfl)
    obtain ⟨X3, hX3⟩ : ∃ X3, X2.alloc (.cells #[.int .i64 a, .int .i64 (n + 1), .int .i64 0, .int .i64 2, .int .i64 ((k : Int) + 1), .int .i64 (n + 0), .int .i64 (v + 1), .int .i64 p] 67) = X3 := ⟨_, rfl⟩
    rw [hX3] at HE ⊢
    clear hX3 hS HA3
    go_wp2_with fail
    go_ret
    rw [HX.out]
    exact HE.out
  · have hB1 : Below W.heap.size W (W.drew.alloc (.cells #[.int .i64 0, .int .i64 0, .int .i64 0] 43)) := hD.alloc hD.size _
    have hB2 : Below W.heap.size W ((W.drew.alloc (.cells #[.int .i64 0, .int .i64 0, .int .i64 0] 43)).alloc (.cells #[.int .i64 0, .int .i64 0, .int .i64 0, .int .i64 0] 31)) := hB1.alloc hB1.size _
    refine ⟨_, .pointer (some ⟨W.heap.size, 0, none⟩), (W.drew.alloc (.cells #[.int .i64 0, .int .i64 0, .int .i64 0] 43)), rfl, rfl, by simp [go_sem], HCl.out _ hB1, ?_⟩
    refine pick_frame (by simp [go_sem]; exact rfl) ?_
    refine pick_make (i := 16) (v := .pointer (some ⟨W.heap.size + 1, 0, none⟩)) (w1 := ((W.drew.alloc (.cells #[.int .i64 0, .int .i64 0, .int .i64 0] 43)).alloc (.cells #[.int .i64 0, .int .i64 0, .int .i64 0, .int .i64 0] 31))) rfl (by kernel_rfl) rfl rfl (by simp [go_sem]) (HCl.out _ hB2) (by simp [go_sem]; exact rfl) ?_
    have g5 : ((W.drew.alloc (.cells #[.int .i64 0, .int .i64 0, .int .i64 0] 43)).alloc (.cells #[.int .i64 0, .int .i64 0, .int .i64 0, .int .i64 0] 31)).heap[W.heap.size + 1]? = some (.cells #[.int .i64 0, .int .i64 0, .int .i64 0, .int .i64 0] 31) := (two_new W.drew _ _).2
    have g6 : ((W.drew.alloc (.cells #[.int .i64 0, .int .i64 0, .int .i64 0] 43)).alloc (.cells #[.int .i64 0, .int .i64 0, .int .i64 0, .int .i64 0] 31)).heap[W.heap.size]? = some (.cells #[.int .i64 0, .int .i64 0, .int .i64 0] 43) := (two_new W.drew _ _).1
    have HBx := hid (boxed hB2 g5 g6 (by omega) (by omega) 6 a b c n v p)
    have HB4 : Hid (Below W.heap.size W (put4 ((W.drew.alloc (.cells #[.int .i64 0, .int .i64 0, .int .i64 0] 43)).alloc (.cells #[.int .i64 0, .int .i64 0, .int .i64 0, .int .i64 0] 31)) (W.heap.size + 1) (.int .i64 6) (.int .i64 a) (.int .i64 b) (.int .i64 c))) := by
      obtain ⟨p1, p2, p3, p4, p5, p6⟩ := put4_is g5 (.int .i64 6) (.int .i64 a) (.int .i64 b) (.int .i64 c)
      exact ⟨p4.trans hB2.os, p5.trans hB2.tape, p6.trans hB2.output, by rw [p3]; exact hB2.size, fun q hq => (p2 q (by omega)).trans (hB2.block q hq)⟩
    refine pick_skip (i := 18) rfl (w1 := put4 ((W.drew.alloc (.cells #[.int .i64 0, .int .i64 0, .int .i64 0] 43)).alloc (.cells #[.int .i64 0, .int .i64 0, .int .i64 0, .int .i64 0] 31)) (W.heap.size + 1) (.int .i64 6) (.int .i64 a) (.int .i64 b) (.int .i64 c)) rfl (by kernel_rfl) rfl rfl (by simp [go_sem, put4]) (HCl.out _ HB4.out) ?_
    refine pick_skip (i := 19) rfl (w1 := put3 (put4 ((W.drew.alloc (.cells #[.int .i64 0, .int .i64 0, .int .i64 0] 43)).alloc (.cells #[.int .i64 0, .int .i64 0, .int .i64 0, .int .i64 0] 31)) (W.heap.size + 1) (.int .i64 6) (.int .i64 a) (.int .i64 b) (.int .i64 c)) (W.heap.size) (.int .i64 n) (.int .i64 v) (.int .i64 p)) rfl (by kernel_rfl) rfl rfl (by simp [go_sem, put4, put3]) (HCl.out _ HBx.out.bel) ?_
    refine pick_make (i := 20) (v := .int .i64 ((k : Int) + 1)) (w1 := put3 (put4 ((W.drew.alloc (.cells #[.int .i64 0, .int .i64 0, .int .i64 0] 43)).alloc (.cells #[.int .i64 0, .int .i64 0, .int .i64 0, .int .i64 0] 31)) (W.heap.size + 1) (.int .i64 6) (.int .i64 a) (.int .i64 b) (.int .i64 c)) (W.heap.size) (.int .i64 n) (.int .i64 v) (.int .i64 p)) rfl (by kernel_rfl) rfl rfl (by simp [go_sem]) (HCl.out _ HBx.out.bel) (by simp [go_sem]; exact rfl) ?_
    refine pick_end (by kernel_rfl) ?_
    obtain ⟨X, hX⟩ : ∃ X, put3 (put4 ((W.drew.alloc (.cells #[.int .i64 0, .int .i64 0, .int .i64 0] 43)).alloc (.cells #[.int .i64 0, .int .i64 0, .int .i64 0, .int .i64 0] 31)) (W.heap.size + 1) (.int .i64 6) (.int .i64 a) (.int .i64 b) (.int .i64 c)) (W.heap.size) (.int .i64 n) (.int .i64 v) (.int .i64 p) = X := ⟨_, rfl⟩
    rw [hX] at HBx ⊢
    obtain ⟨b5, hb5⟩ : ∃ x, W.heap.size + 1 = x := ⟨_, rfl⟩
    obtain ⟨b6, hb6⟩ : ∃ x, W.heap.size = x := ⟨_, rfl⟩
    rw [hb5] at HBx ⊢
    rw [hb6] at HBx ⊢
    clear hX hb5 hb6 g5 g6 hB1 hB2 HB4 hS HCl hD
    clear f0 f1 f2 f3 f4 f5 f6 f7 f8
    have i0 := cell_of_heap HBx.out.i 0
    have i1 := cell_of_heap HBx.out.i 1
    have i3 := cell_of_heap HBx.out.i 3
    have s0 := cell_of_heap HBx.out.s 0
    have s1 := cell_of_heap HBx.out.s 1
    have s2 := cell_of_heap HBx.out.s 2
    simp at i0 i1 i3 s0 s1 s2
    go_wp2_with fail
    have HCl : Hid (∀ Z, Below X.heap.size X Z → (fun w' : World => w'.cell? ⟨b5, 1, none⟩ = some (.int .i64 a) ∧ w'.cell? ⟨b6, 0, none⟩ = some (.int .i64 n) ∧ w'.cell? ⟨b6, 1, none⟩ = some (.int .i64 v) ∧ w'.cell? ⟨b6, 2, none⟩ = some (.int .i64 p)) Z) := fun Z hZ => ⟨(hZ.cell (block_in0 i1)).trans i1, (hZ.cell (block_in0 s0)).trans s0, (hZ.cell (block_in0 s1)).trans s1, (hZ.cell (block_in0 s2)).trans s2⟩
    have HD : Hid (Below X.heap.size X X.drew) := (Below.refl _ _).drew
    have hS := HCl.out _ HD.out
    clear i0 i1 i3 s0 s1 s2
    refine pick_begin (S := (fun w' : World => w'.cell? ⟨b5, 1, none⟩ = some (.int .i64 a) ∧ w'.cell? ⟨b6, 0, none⟩ = some (.int .i64 n) ∧ w'.cell? ⟨b6, 1, none⟩ = some (.int .i64 v) ∧ w'.cell? ⟨b6, 2, none⟩ = some (.int .i64 p))) (by kernel_rfl) rfl rfl ?_
    refine pick_op (i := 0) (v := .pointer (some ⟨b5, 1, none⟩)) (by kernel_rfl) rfl (by kernel_rfl) (by kernel_rfl) rfl rfl (fun w' _ => by simp [go_sem]) hS (by simp [go_sem]; exact rfl) ?_
    refine pick_op (i := 1) (v := .int .i64 a) (by kernel_rfl) rfl (by kernel_rfl) (by kernel_rfl) rfl rfl (fun w' h => by simp [go_sem, h.1]) hS (by simp [go_sem]; exact rfl) ?_
    refine pick_op (i := 2) (v := .pointer (some ⟨b6, 0, none⟩)) (by kernel_rfl) rfl (by kernel_rfl) (by kernel_rfl) rfl rfl (fun w' _ => by simp [go_sem]) hS (by simp [go_sem]; exact rfl) ?_
    refine pick_op (i := 3) (v := .int .i64 n) (by kernel_rfl) rfl (by kernel_rfl) (by kernel_rfl) rfl rfl (fun w' h => by simp [go_sem, h.2.1]) hS (by simp [go_sem]; exact rfl) ?_
    refine pick_op (i := 4) (v := .int .i64 (n + 1)) (by kernel_rfl) rfl (by kernel_rfl) (by kernel_rfl) rfl rfl (fun w' _ => by simp [go_sem]; exact (IntWalk.i64_left _).trans w2) hS (by simp [go_sem]; exact rfl) ?_
    refine pick_op (i := 7) (v := .int .i64 ((k : Int) + 1)) (by kernel_rfl) rfl (by kernel_rfl) (by kernel_rfl) rfl rfl (fun w' _ => by simp [go_sem]) hS (by simp [go_sem]; exact rfl) ?_
    refine pick_op (i := 8) (v := .agg #[.int .i64 n, .int .i64 v, .int .i64 p]) (by kernel_rfl) rfl (by kernel_rfl) (by kernel_rfl) rfl rfl (fun w' h => by simp [go_sem, h.2.1, h.2.2.1, h.2.2.2]) hS (by simp [go_sem]; exact rfl) ?_
    refine pick_enter (i := 5) (f := 67) (args := #[.int .i64 (n + 1)]) rfl (by kernel_rfl) rfl rfl (by simp [go_sem]) ?_
    refine (inFunction_calls (n + 1) _).mono ?_
    rintro e X1 ⟨rfl, hbx⟩
    have HX1 := hid (HD.out.trans (hbx.mono HD.out.size))
    clear hbx hS
    have hS := HCl.out _ HX1.out
    refine ⟨_, rfl, hS, ?_⟩
    refine pick_frame (by simp [go_sem]; exact rfl) ?_
    refine pick_op (i := 6) (v := .agg #[.int .i64 a, .int .i64 (n + 1), .int .i64 0, .int .i64 2]) (by kernel_rfl) rfl (by kernel_rfl) (by kernel_rfl) rfl rfl (fun w' _ => by simp [go_sem]) hS (by simp [go_sem]; exact rfl) ?_
    refine pick_enter (i := 9) (f := 66) (args := #[.agg #[.int .i64 n, .int .i64 v, .int .i64 p], .int .i64 0, .int .i64 1]) rfl (by kernel_rfl) rfl rfl (by simp [go_sem]) ?_
    refine (more_calls n v p (0) (1) _ (by have := HM.out; rw [wrap64]; omega) (by have := HM.out; rw [wrap64]; omega)).mono ?_
    rintro e X2 ⟨rfl, hbx⟩
    have HX2 := hid (HX1.out.trans (hbx.mono HX1.out.size))
    clear hbx hS
    have hS := HCl.out _ HX2.out
    refine ⟨_, rfl, hS, ?_⟩
    refine pick_frame (by simp [go_sem]; exact rfl) ?_
    refine pick_op (i := 10) (v := .agg #[.int .i64 ((k : Int) + 1), .int .i64 (n + 0), .int .i64 (v + 1), .int .i64 p]) (by kernel_rfl) rfl (by kernel_rfl) (by kernel_rfl) rfl rfl (fun w' _ => by simp [go_sem]) hS (by simp [go_sem]; exact rfl) ?_
    have HA3 : Hid (Below X.heap.size X (X2.alloc (.cells #[.int .i64 a, .int .i64 (n + 1), .int .i64 0, .int .i64 2, .int .i64 ((k : Int) + 1), .int .i64 (n + 0), .int .i64 (v + 1), .int .i64 p] 67))) := HX2.out.alloc HX2.out.size _
    refine pick_make (i := 11) (v := .slice (some ⟨X2.heap.size, 0, none⟩) 2 2) (w1 := X2.alloc (.cells #[.int .i64 a, .int .i64 (n + 1), .int .i64 0, .int .i64 2, .int .i64 ((k : Int) + 1), .int .i64 (n + 0), .int .i64 (v + 1), .int .i64 p] 67)) rfl (by kernel_rfl) rfl rfl (by simp [go_sem]) (HCl.out _ HA3.out) (by simp [go_sem]; exact rfl) ?_
    refine pick_make (i := 12) (v := .slice (some ⟨X2.heap.size, 0, none⟩) 2 2) (w1 := X2.alloc (.cells #[.int .i64 a, .int .i64 (n + 1), .int .i64 0, .int .i64 2, .int .i64 ((k : Int) + 1), .int .i64 (n + 0), .int .i64 (v + 1), .int .i64 p] 67)) rfl (by kernel_rfl) rfl rfl (by simp [go_sem]) (HCl.out _ HA3.out) (by simp [go_sem]; exact rfl) ?_
    refine pick_end (by kernel_rfl) ?_
    have HE := hid (exits_two (W := W) (X := X2) (t := a) (n := (n + 1)) (v := 0) (p := 2) (t' := ((k : Int) + 1)) (n' := (n + 0)) (v' := (v + 1)) (p' := p) (HBx.out.bel.trans (HX2.out.mono HBx.out.bel.size)) rfl rfl)
    obtain ⟨X3, hX3⟩ : ∃ X3, X2.alloc (.cells #[.int .i64 a, .int .i64 (n + 1), .int .i64 0, .int .i64 2, .int .i64 ((k : Int) + 1), .int .i64 (n + 0), .int .i64 (v + 1), .int .i64 p] 67) = X3 := ⟨_, rfl⟩
    rw [hX3] at HE ⊢
    clear hX3 hS HA3
    go_wp2_with fail
    go_ret
    rw [HX.out]
    exact HE.out

set_option maxRecDepth 100000 in
set_option maxHeartbeats 8000000 in
theorem exits_7 {W : World} {Fb bc oc cc gs N k : Nat} {is : List In} {a b c n v p : Int} (hk0 : (0 : Int) ≤ (k : Int)) (hk1 : (k : Int) < (N : Int)) (hkN : k ≤ 1500) (hn0 : 0 ≤ n) (hn1 : n ≤ 100) (hv0 : 0 ≤ v) (hv1 : v ≤ 100) (f0 : W.cell? ⟨Fb, 0, none⟩ = some (.slice (some ⟨bc, oc, none⟩) N cc)) (f1 : W.cell? ⟨Fb, 1, none⟩ = some (.slice (some ⟨gs, 0, none⟩) N N)) (f2 : W.cell? ⟨bc, oc + k * 4, none⟩ = some (.int .i64 7)) (f3 : W.cell? ⟨bc, oc + k * 4 + 1, none⟩ = some (.int .i64 a)) (f4 : W.cell? ⟨bc, oc + k * 4 + 2, none⟩ = some (.int .i64 b)) (f5 : W.cell? ⟨bc, oc + k * 4 + 3, none⟩ = some (.int .i64 c)) (f6 : W.cell? ⟨gs, k * 3, none⟩ = some (.int .i64 n)) (f7 : W.cell? ⟨gs, k * 3 + 1, none⟩ = some (.int .i64 v)) (f8 : W.cell? ⟨gs, k * 3 + 2, none⟩ = some (.int .i64 p)) :
    Calls Tryz.prog 36 #[.pointer (some ⟨Fb, 0, none⟩), .int .i64 (k : Int)] W (ExitsP (exitsZ is k ⟨7, a, b, c⟩ ⟨n, v, p⟩) W) := by
  have hexz : exitsZ is k ⟨7, a, b, c⟩ ⟨n, v, p⟩ = [(a, (⟨n + 2, 0, 2⟩ : Sq)), ((k : Int) + 1, (⟨n + 0, v + 1, p⟩ : Sq))] := by simp [exitsZ, Sq.more]
  have HX := hid hexz
  clear hexz
  have w1 : wrap64 ((k : Int) + 1) = (k : Int) + 1 := by rw [wrap64]; omega
  have w2 : wrap64 (n + 1) = n + 1 := by rw [wrap64]; omega
  have w3 : wrap64 (n + 2) = n + 2 := by rw [wrap64]; omega
  have HM : Hid (0 ≤ n ∧ n ≤ 100 ∧ 0 ≤ v ∧ v ≤ 100) := ⟨hn0, hn1, hv0, hv1⟩
  clear hn0 hn1 hv0 hv1 hkN
  go_enter Tryz.func36, Tryz.ntmps36
  go_wp2_with fail
  have hD : Below W.heap.size W W.drew := (Below.refl _ _).drew
  have HCl : Hid (∀ X, Below W.heap.size W X → (fun w' : World => w'.cell? ⟨Fb, 0, none⟩ = some (.slice (some ⟨bc, oc, none⟩) N cc) ∧ w'.cell? ⟨Fb, 1, none⟩ = some (.slice (some ⟨gs, 0, none⟩) N N) ∧ w'.cell? ⟨bc, oc + k * 4, none⟩ = some (.int .i64 7) ∧ w'.cell? ⟨bc, oc + k * 4 + 1, none⟩ = some (.int .i64 a) ∧ w'.cell? ⟨bc, oc + k * 4 + 2, none⟩ = some (.int .i64 b) ∧ w'.cell? ⟨bc, oc + k * 4 + 3, none⟩ = some (.int .i64 c) ∧ w'.cell? ⟨gs, k * 3, none⟩ = some (.int .i64 n) ∧ w'.cell? ⟨gs, k * 3 + 1, none⟩ = some (.int .i64 v) ∧ w'.cell? ⟨gs, k * 3 + 2, none⟩ = some (.int .i64 p)) X) := fun X hX => ⟨(hX.cell (block_in0 f0)).trans f0, (hX.cell (block_in0 f1)).trans f1, (hX.cell (block_in0 f2)).trans f2, (hX.cell (block_in0 f3)).trans f3, (hX.cell (block_in0 f4)).trans f4, (hX.cell (block_in0 f5)).trans f5, (hX.cell (block_in0 f6)).trans f6, (hX.cell (block_in0 f7)).trans f7, (hX.cell (block_in0 f8)).trans f8⟩
  have hS := HCl.out W.drew hD
  refine pick_begin (S := (fun w' : World => w'.cell? ⟨Fb, 0, none⟩ = some (.slice (some ⟨bc, oc, none⟩) N cc) ∧ w'.cell? ⟨Fb, 1, none⟩ = some (.slice (some ⟨gs, 0, none⟩) N N) ∧ w'.cell? ⟨bc, oc + k * 4, none⟩ = some (.int .i64 7) ∧ w'.cell? ⟨bc, oc + k * 4 + 1, none⟩ = some (.int .i64 a) ∧ w'.cell? ⟨bc, oc + k * 4 + 2, none⟩ = some (.int .i64 b) ∧ w'.cell? ⟨bc, oc + k * 4 + 3, none⟩ = some (.int .i64 c) ∧ w'.cell? ⟨gs, k * 3, none⟩ = some (.int .i64 n) ∧ w'.cell? ⟨gs, k * 3 + 1, none⟩ = some (.int .i64 v) ∧ w'.cell? ⟨gs, k * 3 + 2, none⟩ = some (.int .i64 p))) (by kernel_rfl) rfl rfl ?_
  refine pick_op (i := 0) (v := .pointer (some ⟨Fb, 0, none⟩)) (by kernel_rfl) rfl (by kernel_rfl) (by kernel_rfl) rfl rfl (fun w' _ => by simp [go_sem]) hS (by simp [go_sem]; exact rfl) ?_
  refine pick_op (i := 1) (v := .pointer (some ⟨Fb, 0, none⟩)) (by kernel_rfl) rfl (by kernel_rfl) (by kernel_rfl) rfl rfl (fun w' _ => by simp [go_sem]) hS (by simp [go_sem]; exact rfl) ?_
  refine pick_op (i := 2) (v := .pointer (some ⟨Fb, 0, none⟩)) (by kernel_rfl) rfl (by kernel_rfl) (by kernel_rfl) rfl rfl (fun w' _ => by simp [go_sem]) hS (by simp [go_sem]; exact rfl) ?_
  refine pick_op (i := 3) (v := .slice (some ⟨bc, oc, none⟩) N cc) (by kernel_rfl) rfl (by kernel_rfl) (by kernel_rfl) rfl rfl (fun w' h => by simp [go_sem, h.1]) hS (by simp [go_sem]; exact rfl) ?_
  refine pick_op (i := 4) (v := .int .i64 (k : Int)) (by kernel_rfl) rfl (by kernel_rfl) (by kernel_rfl) rfl rfl (fun w' _ => by simp [go_sem]) hS (by simp [go_sem]; exact rfl) ?_
  refine pick_op (i := 5) (v := .pointer (some ⟨bc, oc + k * 4, none⟩)) (by kernel_rfl) rfl (by kernel_rfl) (by kernel_rfl) rfl rfl (fun w' _ => by simp [go_sem, hk0, hk1]) hS (by simp [go_sem]; exact rfl) ?_
  refine pick_op (i := 6) (v := .agg #[.int .i64 7, .int .i64 a, .int .i64 b, .int .i64 c]) (by kernel_rfl) rfl (by kernel_rfl) (by kernel_rfl) rfl rfl (fun w' h => by simp [go_sem, h.2.2.1, h.2.2.2.1, h.2.2.2.2.1, h.2.2.2.2.2.1]) hS (by simp [go_sem]; exact rfl) ?_
  refine pick_op (i := 7) (v := .pointer (some ⟨Fb, 0, none⟩)) (by kernel_rfl) rfl (by kernel_rfl) (by kernel_rfl) rfl rfl (fun w' _ => by simp [go_sem]) hS (by simp [go_sem]; exact rfl) ?_
  refine pick_op (i := 8) (v := .pointer (some ⟨Fb, 0, none⟩)) (by kernel_rfl) rfl (by kernel_rfl) (by kernel_rfl) rfl rfl (fun w' _ => by simp [go_sem]) hS (by simp [go_sem]; exact rfl) ?_
  refine pick_op (i := 9) (v := .pointer (some ⟨Fb, 1, none⟩)) (by kernel_rfl) rfl (by kernel_rfl) (by kernel_rfl) rfl rfl (fun w' _ => by simp [go_sem]) hS (by simp [go_sem]; exact rfl) ?_
  refine pick_op (i := 10) (v := .slice (some ⟨gs, 0, none⟩) N N) (by kernel_rfl) rfl (by kernel_rfl) (by kernel_rfl) rfl rfl (fun w' h => by simp [go_sem, h.2.1]) hS (by simp [go_sem]; exact rfl) ?_
  refine pick_op (i := 11) (v := .int .i64 (k : Int)) (by kernel_rfl) rfl (by kernel_rfl) (by kernel_rfl) rfl rfl (fun w' _ => by simp [go_sem]) hS (by simp [go_sem]; exact rfl) ?_
  refine pick_op (i := 12) (v := .pointer (some ⟨gs, k * 3, none⟩)) (by kernel_rfl) rfl (by kernel_rfl) (by kernel_rfl) rfl rfl (fun w' _ => by simp [go_sem, hk0, hk1]) hS (by simp [go_sem]; exact rfl) ?_
  refine pick_op (i := 13) (v := .agg #[.int .i64 n, .int .i64 v, .int .i64 p]) (by kernel_rfl) rfl (by kernel_rfl) (by kernel_rfl) rfl rfl (fun w' h => by simp [go_sem, h.2.2.2.2.2.2.1, h.2.2.2.2.2.2.2.1, h.2.2.2.2.2.2.2.2]) hS (by simp [go_sem]; exact rfl) ?_
  refine pick_op (i := 14) (v := .int .i64 (k : Int)) (by kernel_rfl) rfl (by kernel_rfl) (by kernel_rfl) rfl rfl (fun w' _ => by simp [go_sem]) hS (by simp [go_sem]; exact rfl) ?_
  refine pick_op (i := 15) (v := .int .i64 ((k : Int) + 1)) (by kernel_rfl) rfl (by kernel_rfl) (by kernel_rfl) rfl rfl (fun w' _ => by simp [go_sem]; exact (IntWalk.i64_left _).trans w1) hS (by simp [go_sem]; exact rfl) ?_
  refine pick_fork (i := 16) (j := 17) (by kernel_rfl) ?_ ?_
  · have hB1 : Below W.heap.size W (W.drew.alloc (.cells #[.int .i64 0, .int .i64 0, .int .i64 0, .int .i64 0] 31)) := hD.alloc hD.size _
    have hB2 : Below W.heap.size W ((W.drew.alloc (.cells #[.int .i64 0, .int .i64 0, .int .i64 0, .int .i64 0] 31)).alloc (.cells #[.int .i64 0, .int .i64 0, .int .i64 0] 43)) := hB1.alloc hB1.size _
    refine ⟨_, .pointer (some ⟨W.heap.size, 0, none⟩), (W.drew.alloc (.cells #[.int .i64 0, .int .i64 0, .int .i64 0, .int .i64 0] 31)), rfl, rfl, by simp [go_sem], HCl.out _ hB1, ?_⟩
    refine pick_frame (by simp [go_sem]; exact rfl) ?_
    refine pick_make (i := 17) (v := .pointer (some ⟨W.heap.size + 1, 0, none⟩)) (w1 := ((W.drew.alloc (.cells #[.int .i64 0, .int .i64 0, .int .i64 0, .int .i64 0] 31)).alloc (.cells #[.int .i64 0, .int .i64 0, .int .i64 0] 43))) rfl (by kernel_rfl) rfl rfl (by simp [go_sem]) (HCl.out _ hB2) (by simp [go_sem]; exact rfl) ?_
    have g5 : ((W.drew.alloc (.cells #[.int .i64 0, .int .i64 0, .int .i64 0, .int .i64 0] 31)).alloc (.cells #[.int .i64 0, .int .i64 0, .int .i64 0] 43)).heap[W.heap.size]? = some (.cells #[.int .i64 0, .int .i64 0, .int .i64 0, .int .i64 0] 31) := (two_new W.drew _ _).1
    have g6 : ((W.drew.alloc (.cells #[.int .i64 0, .int .i64 0, .int .i64 0, .int .i64 0] 31)).alloc (.cells #[.int .i64 0, .int .i64 0, .int .i64 0] 43)).heap[W.heap.size + 1]? = some (.cells #[.int .i64 0, .int .i64 0, .int .i64 0] 43) := (two_new W.drew _ _).2
    have HBx := hid (boxed hB2 g5 g6 (by omega) (by omega) 7 a b c n v p)
    have HB4 : Hid (Below W.heap.size W (put4 ((W.drew.alloc (.cells #[.int .i64 0, .int .i64 0, .int .i64 0, .int .i64 0] 31)).alloc (.cells #[.int .i64 0, .int .i64 0, .int .i64 0] 43)) (W.heap.size) (.int .i64 7) (.int .i64 a) (.int .i64 b) (.int .i64 c))) := by
      obtain ⟨p1, p2, p3, p4, p5, p6⟩ := put4_is g5 (.int .i64 7) (.int .i64 a) (.int .i64 b) (.int .i64 c)
      exact ⟨p4.trans hB2.os, p5.trans hB2.tape, p6.trans hB2.output, by rw [p3]; exact hB2.size, fun q hq => (p2 q (by omega)).trans (hB2.block q hq)⟩
    refine pick_skip (i := 18) rfl (w1 := put4 ((W.drew.alloc (.cells #[.int .i64 0, .int .i64 0, .int .i64 0, .int .i64 0] 31)).alloc (.cells #[.int .i64 0, .int .i64 0, .int .i64 0] 43)) (W.heap.size) (.int .i64 7) (.int .i64 a) (.int .i64 b) (.int .i64 c)) rfl (by kernel_rfl) rfl rfl (by simp [go_sem, put4]) (HCl.out _ HB4.out) ?_
    refine pick_skip (i := 19) rfl (w1 := put3 (put4 ((W.drew.alloc (.cells #[.int .i64 0, .int .i64 0, .int .i64 0, .int .i64 0] 31)).alloc (.cells #[.int .i64 0, .int .i64 0, .int .i64 0] 43)) (W.heap.size) (.int .i64 7) (.int .i64 a) (.int .i64 b) (.int .i64 c)) (W.heap.size + 1) (.int .i64 n) (.int .i64 v) (.int .i64 p)) rfl (by kernel_rfl) rfl rfl (by simp [go_sem, put4, put3]) (HCl.out _ HBx.out.bel) ?_
    refine pick_make (i := 20) (v := .int .i64 ((k : Int) + 1)) (w1 := put3 (put4 ((W.drew.alloc (.cells #[.int .i64 0, .int .i64 0, .int .i64 0, .int .i64 0] 31)).alloc (.cells #[.int .i64 0, .int .i64 0, .int .i64 0] 43)) (W.heap.size) (.int .i64 7) (.int .i64 a) (.int .i64 b) (.int .i64 c)) (W.heap.size + 1) (.int .i64 n) (.int .i64 v) (.int .i64 p)) rfl (by kernel_rfl) rfl rfl (by simp [go_sem]) (HCl.out _ HBx.out.bel) (by simp [go_sem]; exact rfl) ?_
    refine pick_end (by kernel_rfl) ?_
    obtain ⟨X, hX⟩ : ∃ X, put3 (put4 ((W.drew.alloc (.cells #[.int .i64 0, .int .i64 0, .int .i64 0, .int .i64 0] 31)).alloc (.cells #[.int .i64 0, .int .i64 0, .int .i64 0] 43)) (W.heap.size) (.int .i64 7) (.int .i64 a) (.int .i64 b) (.int .i64 c)) (W.heap.size + 1) (.int .i64 n) (.int .i64 v) (.int .i64 p) = X := ⟨_, rfl⟩
    rw [hX] at HBx ⊢
    obtain ⟨b5, hb5⟩ : ∃ x, W.heap.size = x := ⟨_, rfl⟩
    obtain ⟨b6, hb6⟩ : ∃ x, W.heap.size + 1 = x := ⟨_, rfl⟩
    rw [hb6] at HBx ⊢
    rw [hb5] at HBx ⊢
    clear hX hb5 hb6 g5 g6 hB1 hB2 HB4 hS HCl hD
    clear f0 f1 f2 f3 f4 f5 f6 f7 f8
    have i0 := cell_of_heap HBx.out.i 0
    have i1 := cell_of_heap HBx.out.i 1
    have i3 := cell_of_heap HBx.out.i 3
    have s0 := cell_of_heap HBx.out.s 0
    have s1 := cell_of_heap HBx.out.s 1
    have s2 := cell_of_heap HBx.out.s 2
    simp at i0 i1 i3 s0 s1 s2
    go_wp2_with fail
    have HCl : Hid (∀ Z, Below X.heap.size X Z → (fun w' : World => w'.cell? ⟨b5, 1, none⟩ = some (.int .i64 a) ∧ w'.cell? ⟨b6, 0, none⟩ = some (.int .i64 n) ∧ w'.cell? ⟨b6, 1, none⟩ = some (.int .i64 v) ∧ w'.cell? ⟨b6, 2, none⟩ = some (.int .i64 p)) Z) := fun Z hZ => ⟨(hZ.cell (block_in0 i1)).trans i1, (hZ.cell (block_in0 s0)).trans s0, (hZ.cell (block_in0 s1)).trans s1, (hZ.cell (block_in0 s2)).trans s2⟩
    have HD : Hid (Below X.heap.size X X.drew) := (Below.refl _ _).drew
    have hS := HCl.out _ HD.out
    clear i0 i1 i3 s0 s1 s2
    refine pick_begin (S := (fun w' : World => w'.cell? ⟨b5, 1, none⟩ = some (.int .i64 a) ∧ w'.cell? ⟨b6, 0, none⟩ = some (.int .i64 n) ∧ w'.cell? ⟨b6, 1, none⟩ = some (.int .i64 v) ∧ w'.cell? ⟨b6, 2, none⟩ = some (.int .i64 p))) (by kernel_rfl) rfl rfl ?_
    refine pick_op (i := 0) (v := .pointer (some ⟨b5, 1, none⟩)) (by kernel_rfl) rfl (by kernel_rfl) (by kernel_rfl) rfl rfl (fun w' _ => by simp [go_sem]) hS (by simp [go_sem]; exact rfl) ?_
    refine pick_op (i := 1) (v := .int .i64 a) (by kernel_rfl) rfl (by kernel_rfl) (by kernel_rfl) rfl rfl (fun w' h => by simp [go_sem, h.1]) hS (by simp [go_sem]; exact rfl) ?_
    refine pick_op (i := 2) (v := .pointer (some ⟨b6, 0, none⟩)) (by kernel_rfl) rfl (by kernel_rfl) (by kernel_rfl) rfl rfl (fun w' _ => by simp [go_sem]) hS (by simp [go_sem]; exact rfl) ?_
    refine pick_op (i := 3) (v := .int .i64 n) (by kernel_rfl) rfl (by kernel_rfl) (by kernel_rfl) rfl rfl (fun w' h => by simp [go_sem, h.2.1]) hS (by simp [go_sem]; exact rfl) ?_
    refine pick_op (i := 4) (v := .int .i64 (n + 2)) (by kernel_rfl) rfl (by kernel_rfl) (by kernel_rfl) rfl rfl (fun w' _ => by simp [go_sem]; exact (IntWalk.i64_left _).trans w3) hS (by simp [go_sem]; exact rfl) ?_
    refine pick_op (i := 7) (v := .int .i64 ((k : Int) + 1)) (by kernel_rfl) rfl (by kernel_rfl) (by kernel_rfl) rfl rfl (fun w' _ => by simp [go_sem]) hS (by simp [go_sem]; exact rfl) ?_
    refine pick_op (i := 8) (v := .agg #[.int .i64 n, .int .i64 v, .int .i64 p]) (by kernel_rfl) rfl (by kernel_rfl) (by kernel_rfl) rfl rfl (fun w' h => by simp [go_sem, h.2.1, h.2.2.1, h.2.2.2]) hS (by simp [go_sem]; exact rfl) ?_
    refine pick_enter (i := 5) (f := 67) (args := #[.int .i64 (n + 2)]) rfl (by kernel_rfl) rfl rfl (by simp [go_sem]) ?_
    refine (inFunction_calls (n + 2) _).mono ?_
    rintro e X1 ⟨rfl, hbx⟩
    have HX1 := hid (HD.out.trans (hbx.mono HD.out.size))
    clear hbx hS
    have hS := HCl.out _ HX1.out
    refine ⟨_, rfl, hS, ?_⟩
    refine pick_frame (by simp [go_sem]; exact rfl) ?_
    refine pick_op (i := 6) (v := .agg #[.int .i64 a, .int .i64 (n + 2), .int .i64 0, .int .i64 2]) (by kernel_rfl) rfl (by kernel_rfl) (by kernel_rfl) rfl rfl (fun w' _ => by simp [go_sem]) hS (by simp [go_sem]; exact rfl) ?_
    refine pick_enter (i := 9) (f := 66) (args := #[.agg #[.int .i64 n, .int .i64 v, .int .i64 p], .int .i64 0, .int .i64 1]) rfl (by kernel_rfl) rfl rfl (by simp [go_sem]) ?_
    refine (more_calls n v p (0) (1) _ (by have := HM.out; rw [wrap64]; omega) (by have := HM.out; rw [wrap64]; omega)).mono ?_
    rintro e X2 ⟨rfl, hbx⟩
    have HX2 := hid (HX1.out.trans (hbx.mono HX1.out.size))
    clear hbx hS
    have hS := HCl.out _ HX2.out
    refine ⟨_, rfl, hS, ?_⟩
    refine pick_frame (by simp [go_sem]; exact rfl) ?_
    refine pick_op (i := 10) (v := .agg #[.int .i64 ((k : Int) + 1), .int .i64 (n + 0), .int .i64 (v + 1), .int .i64 p]) (by kernel_rfl) rfl (by kernel_rfl) (by kernel_rfl) rfl rfl (fun w' _ => by simp [go_sem]) hS (by simp [go_sem]; exact rfl) ?_
    have HA3 : Hid (Below X.heap.size X (X2.alloc (.cells #[.int .i64 a, .int .i64 (n + 2), .int .i64 0, .int .i64 2, .int .i64 ((k : Int) + 1), .int .i64 (n + 0), .int .i64 (v + 1), .int .i64 p] 67))) := HX2.out.alloc HX2.out.size _
    refine pick_make (i := 11) (v := .slice (some ⟨X2.heap.size, 0, none⟩) 2 2) (w1 := X2.alloc (.cells #[.int .i64 a, .int .i64 (n + 2), .int .i64 0, .int .i64 2, .int .i64 ((k : Int) + 1), .int .i64 (n + 0), .int .i64 (v + 1), .int .i64 p] 67)) rfl (by kernel_rfl) rfl rfl (by simp [go_sem]) (HCl.out _ HA3.out) (by simp [go_sem]; exact rfl) ?_
    refine pick_make (i := 12) (v := .slice (some ⟨X2.heap.size, 0, none⟩) 2 2) (w1 := X2.alloc (.cells #[.int .i64 a, .int .i64 (n + 2), .int .i64 0, .int .i64 2, .int .i64 ((k : Int) + 1), .int .i64 (n + 0), .int .i64 (v + 1), .int .i64 p] 67)) rfl (by kernel_rfl) rfl rfl (by simp [go_sem]) (HCl.out _ HA3.out) (by simp [go_sem]; exact rfl) ?_
    refine pick_end (by kernel_rfl) ?_
    have HE := hid (exits_two (W := W) (X := X2) (t := a) (n := (n + 2)) (v := 0) (p := 2) (t' := ((k : Int) + 1)) (n' := (n + 0)) (v' := (v + 1)) (p' := p) (HBx.out.bel.trans (HX2.out.mono HBx.out.bel.size)) rfl rfl)
    obtain ⟨X3, hX3⟩ : ∃ X3, X2.alloc (.cells #[.int .i64 a, .int .i64 (n + 2), .int .i64 0, .int .i64 2, .int .i64 ((k : Int) + 1), .int .i64 (n + 0), .int .i64 (v + 1), .int .i64 p] 67) = X3 := ⟨_, rfl⟩
    rw [hX3] at HE ⊢
    clear hX3 hS HA3
    go_wp2_with fail
    go_ret
    rw [HX.out]
    exact HE.out
  · have hB1 : Below W.heap.size W (W.drew.alloc (.cells #[.int .i64 0, .int .i64 0, .int .i64 0] 43)) := hD.alloc hD.size _
    have hB2 : Below W.heap.size W ((W.drew.alloc (.cells #[.int .i64 0, .int .i64 0, .int .i64 0] 43)).alloc (.cells #[.int .i64 0, .int .i64 0, .int .i64 0, .int .i64 0] 31)) := hB1.alloc hB1.size _
    refine ⟨_, .pointer (some ⟨W.heap.size, 0, none⟩), (W.drew.alloc (.cells #[.int .i64 0, .int .i64 0, .int .i64 0] 43)), rfl, rfl, by simp [go_sem], HCl.out _ hB1, ?_⟩
    refine pick_frame (by simp [go_sem]; exact rfl) ?_
    refine pick_make (i := 16) (v := .pointer (some ⟨W.heap.size + 1, 0, none⟩)) (w1 := ((W.drew.alloc (.cells #[.int .i64 0, .int .i64 0, .int .i64 0] 43)).alloc (.cells #[.int .i64 0, .int .i64 0, .int .i64 0, .int .i64 0] 31))) rfl (by kernel_rfl) rfl rfl (by simp [go_sem]) (HCl.out _ hB2) (by simp [go_sem]; exact rfl) ?_
    have g5 : ((W.drew.alloc (.cells #[.int .i64 0, .int .i64 0, .int .i64 0] 43)).alloc (.cells #[.int .i64 0, .int .i64 0, .int .i64 0, .int .i64 0] 31)).heap[W.heap.size + 1]? = some (.cells #[.int .i64 0, .int .i64 0, .int .i64 0, .int .i64 0] 31) := (two_new W.drew _ _).2
    have g6 : ((W.drew.alloc (.cells #[.int .i64 0, .int .i64 0, .int .i64 0] 43)).alloc (.cells #[.int .i64 0, .int .i64 0, .int .i64 0, .int .i64 0] 31)).heap[W.heap.size]? = some (.cells #[.int .i64 0, .int .i64 0, .int .i64 0] 43) := (two_new W.drew _ _).1
    have HBx := hid (boxed hB2 g5 g6 (by omega) (by omega) 7 a b c n v p)
    have HB4 : Hid (Below W.heap.size W (put4 ((W.drew.alloc (.cells #[.int .i64 0, .int .i64 0, .int .i64 0] 43)).alloc (.cells #[.int .i64 0, .int .i64 0, .int .i64 0, .int .i64 0] 31)) (W.heap.size + 1) (.int .i64 7) (.int .i64 a) (.int .i64 b) (.int .i64 c))) := by
      obtain ⟨p1, p2, p3, p4, p5, p6⟩ := put4_is g5 (.int .i64 7) (.int .i64 a) (.int .i64 b) (.int .i64 c)
      exact ⟨p4.trans hB2.os, p5.trans hB2.tape, p6.trans hB2.output, by rw [p3]; exact hB2.size, fun q hq => (p2 q (by omega)).trans (hB2.block q hq)⟩
    refine pick_skip (i := 18) rfl (w1 := put4 ((W.drew.alloc (.cells #[.int .i64 0, .int .i64 0, .int .i64 0] 43)).alloc (.cells #[.int .i64 0, .int .i64 0, .int .i64 0, .int .i64 0] 31)) (W.heap.size + 1) (.int .i64 7) (.int .i64 a) (.int .i64 b) (.int .i64 c)) rfl (by kernel_rfl) rfl rfl (by simp [go_sem, put4]) (HCl.out _ HB4.out) ?_
    refine pick_skip (i := 19) rfl (w1 := put3 (put4 ((W.drew.alloc (.cells #[.int .i64 0, .int .i64 0, .int .i64 0] 43)).alloc (.cells #[.int .i64 0, .int .i64 0, .int .i64 0, .int .i64 0] 31)) (W.heap.size + 1) (.int .i64 7) (.int .i64 a) (.int .i64 b) (.int .i64 c)) (W.heap.size) (.int .i64 n) (.int .i64 v) (.int .i64 p)) rfl (by kernel_rfl) rfl rfl (by simp [go_sem, put4, put3]) (HCl.out _ HBx.out.bel) ?_
    refine pick_make (i := 20) (v := .int .i64 ((k : Int) + 1)) (w1 := put3 (put4 ((W.drew.alloc (.cells #[.int .i64 0, .int .i64 0, .int .i64 0] 43)).alloc (.cells #[.int .i64 0, .int .i64 0, .int .i64 0, .int .i64 0] 31)) (W.heap.size + 1) (.int .i64 7) (.int .i64 a) (.int .i64 b) (.int .i64 c)) (W.heap.size) (.int .i64 n) (.int .i64 v) (.int .i64 p)) rfl (by kernel_rfl) rfl rfl (by simp [go_sem]) (HCl.out _ HBx.out.bel) (by simp [go_sem]; exact rfl) ?_
    refine pick_end (by kernel_rfl) ?_
    obtain ⟨X, hX⟩ : ∃ X, put3 (put4 ((W.drew.alloc (.cells #[.int .i64 0, .int .i64 0, .int .i64 0] 43)).alloc (.cells #[.int .i64 0, .int .i64 0, .int .i64 0, .int .i64 0] 31)) (W.heap.size + 1) (.int .i64 7) (.int .i64 a) (.int .i64 b) (.int .i64 c)) (W.heap.size) (.int .i64 n) (.int .i64 v) (.int .i64 p) = X := ⟨_, rfl⟩
    rw [hX] at HBx ⊢
    obtain ⟨b5, hb5⟩ : ∃ x, W.heap.size + 1 = x := ⟨_, rfl⟩
    obtain ⟨b6, hb6⟩ : ∃ x, W.heap.size = x := ⟨_, rfl⟩
    rw [hb5] at HBx ⊢
    rw [hb6] at HBx ⊢
    clear hX hb5 hb6 g5 g6 hB1 hB2 HB4 hS HCl hD
    clear f0 f1 f2 f3 f4 f5 f6 f7 f8
    have i0 := cell_of_heap HBx.out.i 0
    have i1 := cell_of_heap HBx.out.i 1
    have i3 := cell_of_heap HBx.out.i 3
    have s0 := cell_of_heap HBx.out.s 0
    have s1 := cell_of_heap HBx.out.s 1
    have s2 := cell_of_heap HBx.out.s 2
    simp at i0 i1 i3 s0 s1 s2
    go_wp2_with fail
    have HCl : Hid (∀ Z, Below X.heap.size X Z → (fun w' : World => w'.cell? ⟨b5, 1, none⟩ = some (.int .i64 a) ∧ w'.cell? ⟨b6, 0, none⟩ = some (.int .i64 n) ∧ w'.cell? ⟨b6, 1, none⟩ = some (.int .i64 v) ∧ w'.cell? ⟨b6, 2, none⟩ = some (.int .i64 p)) Z) := fun Z hZ => ⟨(hZ.cell (block_in0 i1)).trans i1, (hZ.cell (block_in0 s0)).trans s0, (hZ.cell (block_in0 s1)).trans s1, (hZ.cell (block_in0 s2)).trans s2⟩
    have HD : Hid (Below X.heap.size X X.drew) := (Below.refl _ _).drew
    have hS := HCl.out _ HD.out
    clear i0 i1 i3 s0 s1 s2
    refine pick_begin (S := (fun w' : World => w'.cell? ⟨b5, 1, none⟩ = some (.int .i64 a) ∧ w'.cell? ⟨b6, 0, none⟩ = some (.int .i64 n) ∧ w'.cell? ⟨b6, 1, none⟩ = some (.int .i64 v) ∧ w'.cell? ⟨b6, 2, none⟩ = some (.int .i64 p))) (by kernel_rfl) rfl rfl ?_
    refine pick_op (i := 0) (v := .pointer (some ⟨b5, 1, none⟩)) (by kernel_rfl) rfl (by kernel_rfl) (by kernel_rfl) rfl rfl (fun w' _ => by simp [go_sem]) hS (by simp [go_sem]; exact rfl) ?_
    refine pick_op (i := 1) (v := .int .i64 a) (by kernel_rfl) rfl (by kernel_rfl) (by kernel_rfl) rfl rfl (fun w' h => by simp [go_sem, h.1]) hS (by simp [go_sem]; exact rfl) ?_
    refine pick_op (i := 2) (v := .pointer (some ⟨b6, 0, none⟩)) (by kernel_rfl) rfl (by kernel_rfl) (by kernel_rfl) rfl rfl (fun w' _ => by simp [go_sem]) hS (by simp [go_sem]; exact rfl) ?_
    refine pick_op (i := 3) (v := .int .i64 n) (by kernel_rfl) rfl (by kernel_rfl) (by kernel_rfl) rfl rfl (fun w' h => by simp [go_sem, h.2.1]) hS (by simp [go_sem]; exact rfl) ?_
    refine pick_op (i := 4) (v := .int .i64 (n + 2)) (by kernel_rfl) rfl (by kernel_rfl) (by kernel_rfl) rfl rfl (fun w' _ => by simp [go_sem]; exact (IntWalk.i64_left _).trans w3) hS (by simp [go_sem]; exact rfl) ?_
    refine pick_op (i := 7) (v := .int .i64 ((k : Int) + 1)) (by kernel_rfl) rfl (by kernel_rfl) (by kernel_rfl) rfl rfl (fun w' _ => by simp [go_sem]) hS (by simp [go_sem]; exact rfl) ?_
    refine pick_op (i := 8) (v := .agg #[.int .i64 n, .int .i64 v, .int .i64 p]) (by kernel_rfl) rfl (by kernel_rfl) (by kernel_rfl) rfl rfl (fun w' h => by simp [go_sem, h.2.1, h.2.2.1, h.2.2.2]) hS (by simp [go_sem]; exact rfl) ?_
    refine pick_enter (i := 5) (f := 67) (args := #[.int .i64 (n + 2)]) rfl (by kernel_rfl) rfl rfl (by simp [go_sem]) ?_
    refine (inFunction_calls (n + 2) _).mono ?_
    rintro e X1 ⟨rfl, hbx⟩
    have HX1 := hid (HD.out.trans (hbx.mono HD.out.size))
    clear hbx hS
    have hS := HCl.out _ HX1.out
    refine ⟨_, rfl, hS, ?_⟩
    refine pick_frame (by simp [go_sem]; exact rfl) ?_
    refine pick_op (i := 6) (v := .agg #[.int .i64 a, .int .i64 (n + 2), .int .i64 0, .int .i64 2]) (by kernel_rfl) rfl (by kernel_rfl) (by kernel_rfl) rfl rfl (fun w' _ => by simp [go_sem]) hS (by simp [go_sem]; exact rfl) ?_
    refine pick_enter (i := 9) (f := 66) (args := #[.agg #[.int .i64 n, .int .i64 v, .int .i64 p], .int .i64 0, .int .i64 1]) rfl (by kernel_rfl) rfl rfl (by simp [go_sem]) ?_
    refine (more_calls n v p (0) (1) _ (by have := HM.out; rw [wrap64]; omega) (by have := HM.out; rw [wrap64]; omega)).mono ?_
    rintro e X2 ⟨rfl, hbx⟩
    have HX2 := hid (HX1.out.trans (hbx.mono HX1.out.size))
    clear hbx hS
    have hS := HCl.out _ HX2.out
    refine ⟨_, rfl, hS, ?_⟩
    refine pick_frame (by simp [go_sem]; exact rfl) ?_
    refine pick_op (i := 10) (v := .agg #[.int .i64 ((k : Int) + 1), .int .i64 (n + 0), .int .i64 (v + 1), .int .i64 p]) (by kernel_rfl) rfl (by kernel_rfl) (by kernel_rfl) rfl rfl (fun w' _ => by simp [go_sem]) hS (by simp [go_sem]; exact rfl) ?_
    have HA3 : Hid (Below X.heap.size X (X2.alloc (.cells #[.int .i64 a, .int .i64 (n + 2), .int .i64 0, .int .i64 2, .int .i64 ((k : Int) + 1), .int .i64 (n + 0), .int .i64 (v + 1), .int .i64 p] 67))) := HX2.out.alloc HX2.out.size _
    refine pick_make (i := 11) (v := .slice (some ⟨X2.heap.size, 0, none⟩) 2 2) (w1 := X2.alloc (.cells #[.int .i64 a, .int .i64 (n + 2), .int .i64 0, .int .i64 2, .int .i64 ((k : Int) + 1), .int .i64 (n + 0), .int .i64 (v + 1), .int .i64 p] 67)) rfl (by kernel_rfl) rfl rfl (by simp [go_sem]) (HCl.out _ HA3.out) (by simp [go_sem]; exact rfl) ?_
    refine pick_make (i := 12) (v := .slice (some ⟨X2.heap.size, 0, none⟩) 2 2) (w1 := X2.alloc (.cells #[.int .i64 a, .int .i64 (n + 2), .int .i64 0, .int .i64 2, .int .i64 ((k : Int) + 1), .int .i64 (n + 0), .int .i64 (v + 1), .int .i64 p] 67)) rfl (by kernel_rfl) rfl rfl (by simp [go_sem]) (HCl.out _ HA3.out) (by simp [go_sem]; exact rfl) ?_
    refine pick_end (by kernel_rfl) ?_
    have HE := hid (exits_two (W := W) (X := X2) (t := a) (n := (n + 2)) (v := 0) (p := 2) (t' := ((k : Int) + 1)) (n' := (n + 0)) (v' := (v + 1)) (p' := p) (HBx.out.bel.trans (HX2.out.mono HBx.out.bel.size)) rfl rfl)
    obtain ⟨X3, hX3⟩ : ∃ X3, X2.alloc (.cells #[.int .i64 a, .int .i64 (n + 2), .int .i64 0, .int .i64 2, .int .i64 ((k : Int) + 1), .int .i64 (n + 0), .int .i64 (v + 1), .int .i64 p] 67) = X3 := ⟨_, rfl⟩
    rw [hX3] at HE ⊢
    clear hX3 hS HA3
    go_wp2_with fail
    go_ret
    rw [HX.out]
    exact HE.out

set_option maxRecDepth 100000 in
set_option maxHeartbeats 8000000 in
theorem exits_10 {W : World} {Fb bc oc cc gs N k : Nat} {is : List In} {a b c n v p : Int} (hk0 : (0 : Int) ≤ (k : Int)) (hk1 : (k : Int) < (N : Int)) (hkN : k ≤ 1500) (hn0 : 0 ≤ n) (hn1 : n ≤ 100) (hv0 : 0 ≤ v) (hv1 : v ≤ 100) (f0 : W.cell? ⟨Fb, 0, none⟩ = some (.slice (some ⟨bc, oc, none⟩) N cc)) (f1 : W.cell? ⟨Fb, 1, none⟩ = some (.slice (some ⟨gs, 0, none⟩) N N)) (f2 : W.cell? ⟨bc, oc + k * 4, none⟩ = some (.int .i64 10)) (f3 : W.cell? ⟨bc, oc + k * 4 + 1, none⟩ = some (.int .i64 a)) (f4 : W.cell? ⟨bc, oc + k * 4 + 2, none⟩ = some (.int .i64 b)) (f5 : W.cell? ⟨bc, oc + k * 4 + 3, none⟩ = some (.int .i64 c)) (f6 : W.cell? ⟨gs, k * 3, none⟩ = some (.int .i64 n)) (f7 : W.cell? ⟨gs, k * 3 + 1, none⟩ = some (.int .i64 v)) (f8 : W.cell? ⟨gs, k * 3 + 2, none⟩ = some (.int .i64 p)) :
    Calls Tryz.prog 36 #[.pointer (some ⟨Fb, 0, none⟩), .int .i64 (k : Int)] W (ExitsP (exitsZ is k ⟨10, a, b, c⟩ ⟨n, v, p⟩) W) := by
  have hexz : exitsZ is k ⟨10, a, b, c⟩ ⟨n, v, p⟩ = [(a, (⟨n + 0, v + (-1), p⟩ : Sq)), ((k : Int) + 1, (⟨n + 0, v + (-1), p⟩ : Sq))] := by simp [exitsZ, Sq.more]
  have HX := hid hexz
  clear hexz
  have w1 : wrap64 ((k : Int) + 1) = (k : Int) + 1 := by rw [wrap64]; omega
  have w2 : wrap64 (n + 1) = n + 1 := by rw [wrap64]; omega
  have w3 : wrap64 (n + 2) = n + 2 := by rw [wrap64]; omega
  have HM : Hid (0 ≤ n ∧ n ≤ 100 ∧ 0 ≤ v ∧ v ≤ 100) := ⟨hn0, hn1, hv0, hv1⟩
  clear hn0 hn1 hv0 hv1 hkN
  go_enter Tryz.func36, Tryz.ntmps36
  go_wp2_with fail
  have hD : Below W.heap.size W W.drew := (Below.refl _ _).drew
  have HCl : Hid (∀ X, Below W.heap.size W X → (fun w' : World => w'.cell? ⟨Fb, 0, none⟩ = some (.slice (some ⟨bc, oc, none⟩) N cc) ∧ w'.cell? ⟨Fb, 1, none⟩ = some (.slice (some ⟨gs, 0, none⟩) N N) ∧ w'.cell? ⟨bc, oc + k * 4, none⟩ = some (.int .i64 10) ∧ w'.cell? ⟨bc, oc + k * 4 + 1, none⟩ = some (.int .i64 a) ∧ w'.cell? ⟨bc, oc + k * 4 + 2, none⟩ = some (.int .i64 b) ∧ w'.cell? ⟨bc, oc + k * 4 + 3, none⟩ = some (.int .i64 c) ∧ w'.cell? ⟨gs, k * 3, none⟩ = some (.int .i64 n) ∧ w'.cell? ⟨gs, k * 3 + 1, none⟩ = some (.int .i64 v) ∧ w'.cell? ⟨gs, k * 3 + 2, none⟩ = some (.int .i64 p)) X) := fun X hX => ⟨(hX.cell (block_in0 f0)).trans f0, (hX.cell (block_in0 f1)).trans f1, (hX.cell (block_in0 f2)).trans f2, (hX.cell (block_in0 f3)).trans f3, (hX.cell (block_in0 f4)).trans f4, (hX.cell (block_in0 f5)).trans f5, (hX.cell (block_in0 f6)).trans f6, (hX.cell (block_in0 f7)).trans f7, (hX.cell (block_in0 f8)).trans f8⟩
  have hS := HCl.out W.drew hD
  refine pick_begin (S := (fun w' : World => w'.cell? ⟨Fb, 0, none⟩ = some (.slice (some ⟨bc, oc, none⟩) N cc) ∧ w'.cell? ⟨Fb, 1, none⟩ = some (.slice (some ⟨gs, 0, none⟩) N N) ∧ w'.cell? ⟨bc, oc + k * 4, none⟩ = some (.int .i64 10) ∧ w'.cell? ⟨bc, oc + k * 4 + 1, none⟩ = some (.int .i64 a) ∧ w'.cell? ⟨bc, oc + k * 4 + 2, none⟩ = some (.int .i64 b) ∧ w'.cell? ⟨bc, oc + k * 4 + 3, none⟩ = some (.int .i64 c) ∧ w'.cell? ⟨gs, k * 3, none⟩ = some (.int .i64 n) ∧ w'.cell? ⟨gs, k * 3 + 1, none⟩ = some (.int .i64 v) ∧ w'.cell? ⟨gs, k * 3 + 2, none⟩ = some (.int .i64 p))) (by kernel_rfl) rfl rfl ?_
  refine pick_op (i := 0) (v := .pointer (some ⟨Fb, 0, none⟩)) (by kernel_rfl) rfl (by kernel_rfl) (by kernel_rfl) rfl rfl (fun w' _ => by simp [go_sem]) hS (by simp [go_sem]; exact rfl) ?_
  refine pick_op (i := 1) (v := .pointer (some ⟨Fb, 0, none⟩)) (by kernel_rfl) rfl (by kernel_rfl) (by kernel_rfl) rfl rfl (fun w' _ => by simp [go_sem]) hS (by simp [go_sem]; exact rfl) ?_
  refine pick_op (i := 2) (v := .pointer (some ⟨Fb, 0, none⟩)) (by kernel_rfl) rfl (by kernel_rfl) (by kernel_rfl) rfl rfl (fun w' _ => by simp [go_sem]) hS (by simp [go_sem]; exact rfl) ?_
  refine pick_op (i := 3) (v := .slice (some ⟨bc, oc, none⟩) N cc) (by kernel_rfl) rfl (by kernel_rfl) (by kernel_rfl) rfl rfl (fun w' h => by simp [go_sem, h.1]) hS (by simp [go_sem]; exact rfl) ?_
  refine pick_op (i := 4) (v := .int .i64 (k : Int)) (by kernel_rfl) rfl (by kernel_rfl) (by kernel_rfl) rfl rfl (fun w' _ => by simp [go_sem]) hS (by simp [go_sem]; exact rfl) ?_
  refine pick_op (i := 5) (v := .pointer (some ⟨bc, oc + k * 4, none⟩)) (by kernel_rfl) rfl (by kernel_rfl) (by kernel_rfl) rfl rfl (fun w' _ => by simp [go_sem, hk0, hk1]) hS (by simp [go_sem]; exact rfl) ?_
  refine pick_op (i := 6) (v := .agg #[.int .i64 10, .int .i64 a, .int .i64 b, .int .i64 c]) (by kernel_rfl) rfl (by kernel_rfl) (by kernel_rfl) rfl rfl (fun w' h => by simp [go_sem, h.2.2.1, h.2.2.2.1, h.2.2.2.2.1, h.2.2.2.2.2.1]) hS (by simp [go_sem]; exact rfl) ?_
  refine pick_op (i := 7) (v := .pointer (some ⟨Fb, 0, none⟩)) (by kernel_rfl) rfl (by kernel_rfl) (by kernel_rfl) rfl rfl (fun w' _ => by simp [go_sem]) hS (by simp [go_sem]; exact rfl) ?_
  refine pick_op (i := 8) (v := .pointer (some ⟨Fb, 0, none⟩)) (by kernel_rfl) rfl (by kernel_rfl) (by kernel_rfl) rfl rfl (fun w' _ => by simp [go_sem]) hS (by simp [go_sem]; exact rfl) ?_
  refine pick_op (i := 9) (v := .pointer (some ⟨Fb, 1, none⟩)) (by kernel_rfl) rfl (by kernel_rfl) (by kernel_rfl) rfl rfl (fun w' _ => by simp [go_sem]) hS (by simp [go_sem]; exact rfl) ?_
  refine pick_op (i := 10) (v := .slice (some ⟨gs, 0, none⟩) N N) (by kernel_rfl) rfl (by kernel_rfl) (by kernel_rfl) rfl rfl (fun w' h => by simp [go_sem, h.2.1]) hS (by simp [go_sem]; exact rfl) ?_
  refine pick_op (i := 11) (v := .int .i64 (k : Int)) (by kernel_rfl) rfl (by kernel_rfl) (by kernel_rfl) rfl rfl (fun w' _ => by simp [go_sem]) hS (by simp [go_sem]; exact rfl) ?_
  refine pick_op (i := 12) (v := .pointer (some ⟨gs, k * 3, none⟩)) (by kernel_rfl) rfl (by kernel_rfl) (by kernel_rfl) rfl rfl (fun w' _ => by simp [go_sem, hk0, hk1]) hS (by simp [go_sem]; exact rfl) ?_
  refine pick_op (i := 13) (v := .agg #[.int .i64 n, .int .i64 v, .int .i64 p]) (by kernel_rfl) rfl (by kernel_rfl) (by kernel_rfl) rfl rfl (fun w' h => by simp [go_sem, h.2.2.2.2.2.2.1, h.2.2.2.2.2.2.2.1, h.2.2.2.2.2.2.2.2]) hS (by simp [go_sem]; exact rfl) ?_
  refine pick_op (i := 14) (v := .int .i64 (k : Int)) (by kernel_rfl) rfl (by kernel_rfl) (by kernel_rfl) rfl rfl (fun w' _ => by simp [go_sem]) hS (by simp [go_sem]; exact rfl) ?_
  refine pick_op (i := 15) (v := .int .i64 ((k : Int) + 1)) (by kernel_rfl) rfl (by kernel_rfl) (by kernel_rfl) rfl rfl (fun w' _ => by simp [go_sem]; exact (IntWalk.i64_left _).trans w1) hS (by simp [go_sem]; exact rfl) ?_
  refine pick_fork (i := 16) (j := 17) (by kernel_rfl) ?_ ?_
  · have hB1 : Below W.heap.size W (W.drew.alloc (.cells #[.int .i64 0, .int .i64 0, .int .i64 0, .int .i64 0] 31)) := hD.alloc hD.size _
    have hB2 : Below W.heap.size W ((W.drew.alloc (.cells #[.int .i64 0, .int .i64 0, .int .i64 0, .int .i64 0] 31)).alloc (.cells #[.int .i64 0, .int .i64 0, .int .i64 0] 43)) := hB1.alloc hB1.size _
    refine ⟨_, .pointer (some ⟨W.heap.size, 0, none⟩), (W.drew.alloc (.cells #[.int .i64 0, .int .i64 0, .int .i64 0, .int .i64 0] 31)), rfl, rfl, by simp [go_sem], HCl.out _ hB1, ?_⟩
    refine pick_frame (by simp [go_sem]; exact rfl) ?_
    refine pick_make (i := 17) (v := .pointer (some ⟨W.heap.size + 1, 0, none⟩)) (w1 := ((W.drew.alloc (.cells #[.int .i64 0, .int .i64 0, .int .i64 0, .int .i64 0] 31)).alloc (.cells #[.int .i64 0, .int .i64 0, .int .i64 0] 43))) rfl (by kernel_rfl) rfl rfl (by simp [go_sem]) (HCl.out _ hB2) (by simp [go_sem]; exact rfl) ?_
    have g5 : ((W.drew.alloc (.cells #[.int .i64 0, .int .i64 0, .int .i64 0, .int .i64 0] 31)).alloc (.cells #[.int .i64 0, .int .i64 0, .int .i64 0] 43)).heap[W.heap.size]? = some (.cells #[.int .i64 0, .int .i64 0, .int .i64 0, .int .i64 0] 31) := (two_new W.drew _ _).1
    have g6 : ((W.drew.alloc (.cells #[.int .i64 0, .int .i64 0, .int .i64 0, .int .i64 0] 31)).alloc (.cells #[.int .i64 0, .int .i64 0, .int .i64 0] 43)).heap[W.heap.size + 1]? = some (.cells #[.int .i64 0, .int .i64 0, .int .i64 0] 43) := (two_new W.drew _ _).2
    have HBx := hid (boxed hB2 g5 g6 (by omega) (by omega) 10 a b c n v p)
    have HB4 : Hid (Below W.heap.size W (put4 ((W.drew.alloc (.cells #[.int .i64 0, .int .i64 0, .int .i64 0, .int .i64 0] 31)).alloc (.cells #[.int .i64 0, .int .i64 0, .int .i64 0] 43)) (W.heap.size) (.int .i64 10) (.int .i64 a) (.int .i64 b) (.int .i64 c))) := by
      obtain ⟨p1, p2, p3, p4, p5, p6⟩ := put4_is g5 (.int .i64 10) (.int .i64 a) (.int .i64 b) (.int .i64 c)
      exact ⟨p4.trans hB2.os, p5.trans hB2.tape, p6.trans hB2.output, by rw [p3]; exact hB2.size, fun q hq => (p2 q (by omega)).trans (hB2.block q hq)⟩
    refine pick_skip (i := 18) rfl (w1 := put4 ((W.drew.alloc (.cells #[.int .i64 0, .int .i64 0, .int .i64 0, .int .i64 0] 31)).alloc (.cells #[.int .i64 0, .int .i64 0, .int .i64 0] 43)) (W.heap.size) (.int .i64 10) (.int .i64 a) (.int .i64 b) (.int .i64 c)) rfl (by kernel_rfl) rfl rfl (by simp [go_sem, put4]) (HCl.out _ HB4.out) ?_
    refine pick_skip (i := 19) rfl (w1 := put3 (put4 ((W.drew.alloc (.cells #[.int .i64 0, .int .i64 0, .int .i64 0, .int .i64 0] 31)).alloc (.cells #[.int .i64 0, .int .i64 0, .int .i64 0] 43)) (W.heap.size) (.int .i64 10) (.int .i64 a) (.int .i64 b) (.int .i64 c)) (W.heap.size + 1) (.int .i64 n) (.int .i64 v) (.int .i64 p)) rfl (by kernel_rfl) rfl rfl (by simp [go_sem, put4, put3]) (HCl.out _ HBx.out.bel) ?_
    refine pick_make (i := 20) (v := .int .i64 ((k : Int) + 1)) (w1 := put3 (put4 ((W.drew.alloc (.cells #[.int .i64 0, .int .i64 0, .int .i64 0, .int .i64 0] 31)).alloc (.cells #[.int .i64 0, .int .i64 0, .int .i64 0] 43)) (W.heap.size) (.int .i64 10) (.int .i64 a) (.int .i64 b) (.int .i64 c)) (W.heap.size + 1) (.int .i64 n) (.int .i64 v) (.int .i64 p)) rfl (by kernel_rfl) rfl rfl (by simp [go_sem]) (HCl.out _ HBx.out.bel) (by simp [go_sem]; exact rfl) ?_
    refine pick_end (by kernel_rfl) ?_
    obtain ⟨X, hX⟩ : ∃ X, put3 (put4 ((W.drew.alloc (.cells #[.int .i64 0, .int .i64 0, .int .i64 0, .int .i64 0] 31)).alloc (.cells #[.int .i64 0, .int .i64 0, .int .i64 0] 43)) (W.heap.size) (.int .i64 10) (.int .i64 a) (.int .i64 b) (.int .i64 c)) (W.heap.size + 1) (.int .i64 n) (.int .i64 v) (.int .i64 p) = X := ⟨_, rfl⟩
    rw [hX] at HBx ⊢
    obtain ⟨b5, hb5⟩ : ∃ x, W.heap.size = x := ⟨_, rfl⟩
    obtain ⟨b6, hb6⟩ : ∃ x, W.heap.size + 1 = x := ⟨_, rfl⟩
    rw [hb6] at HBx ⊢
    rw [hb5] at HBx ⊢
    clear hX hb5 hb6 g5 g6 hB1 hB2 HB4 hS HCl hD
    clear f0 f1 f2 f3 f4 f5 f6 f7 f8
    have i0 := cell_of_heap HBx.out.i 0
    have i1 := cell_of_heap HBx.out.i 1
    have i3 := cell_of_heap HBx.out.i 3
    have s0 := cell_of_heap HBx.out.s 0
    have s1 := cell_of_heap HBx.out.s 1
    have s2 := cell_of_heap HBx.out.s 2
    simp at i0 i1 i3 s0 s1 s2
    go_wp2_with fail
    have HCl : Hid (∀ Z, Below X.heap.size X Z → (fun w' : World => w'.cell? ⟨b5, 1, none⟩ = some (.int .i64 a) ∧ w'.cell? ⟨b6, 0, none⟩ = some (.int .i64 n) ∧ w'.cell? ⟨b6, 1, none⟩ = some (.int .i64 v) ∧ w'.cell? ⟨b6, 2, none⟩ = some (.int .i64 p)) Z) := fun Z hZ => ⟨(hZ.cell (block_in0 i1)).trans i1, (hZ.cell (block_in0 s0)).trans s0, (hZ.cell (block_in0 s1)).trans s1, (hZ.cell (block_in0 s2)).trans s2⟩
    have HD : Hid (Below X.heap.size X X.drew) := (Below.refl _ _).drew
    have hS := HCl.out _ HD.out
    clear i0 i1 i3 s0 s1 s2
    refine pick_begin (S := (fun w' : World => w'.cell? ⟨b5, 1, none⟩ = some (.int .i64 a) ∧ w'.cell? ⟨b6, 0, none⟩ = some (.int .i64 n) ∧ w'.cell? ⟨b6, 1, none⟩ = some (.int .i64 v) ∧ w'.cell? ⟨b6, 2, none⟩ = some (.int .i64 p))) (by kernel_rfl) rfl rfl ?_
    refine pick_op (i := 0) (v := .pointer (some ⟨b5, 1, none⟩)) (by kernel_rfl) rfl (by kernel_rfl) (by kernel_rfl) rfl rfl (fun w' _ => by simp [go_sem]) hS (by simp [go_sem]; exact rfl) ?_
    refine pick_op (i := 1) (v := .int .i64 a) (by kernel_rfl) rfl (by kernel_rfl) (by kernel_rfl) rfl rfl (fun w' h => by simp [go_sem, h.1]) hS (by simp [go_sem]; exact rfl) ?_
    refine pick_op (i := 2) (v := .agg #[.int .i64 n, .int .i64 v, .int .i64 p]) (by kernel_rfl) rfl (by kernel_rfl) (by kernel_rfl) rfl rfl (fun w' h => by simp [go_sem, h.2.1, h.2.2.1, h.2.2.2]) hS (by simp [go_sem]; exact rfl) ?_
    refine pick_op (i := 5) (v := .int .i64 ((k : Int) + 1)) (by kernel_rfl) rfl (by kernel_rfl) (by kernel_rfl) rfl rfl (fun w' _ => by simp [go_sem]) hS (by simp [go_sem]; exact rfl) ?_
    refine pick_op (i := 6) (v := .agg #[.int .i64 n, .int .i64 v, .int .i64 p]) (by kernel_rfl) rfl (by kernel_rfl) (by kernel_rfl) rfl rfl (fun w' h => by simp [go_sem, h.2.1, h.2.2.1, h.2.2.2]) hS (by simp [go_sem]; exact rfl) ?_
    refine pick_enter (i := 3) (f := 66) (args := #[.agg #[.int .i64 n, .int .i64 v, .int .i64 p], .int .i64 0, .int .i64 (-1)]) rfl (by kernel_rfl) rfl rfl (by simp [go_sem]) ?_
    refine (more_calls n v p (0) (-1) _ (by have := HM.out; rw [wrap64]; omega) (by have := HM.out; rw [wrap64]; omega)).mono ?_
    rintro e X1 ⟨rfl, hbx⟩
    have HX1 := hid (HD.out.trans (hbx.mono HD.out.size))
    clear hbx hS
    have hS := HCl.out _ HX1.out
    refine ⟨_, rfl, hS, ?_⟩
    refine pick_frame (by simp [go_sem]; exact rfl) ?_
    refine pick_op (i := 4) (v := .agg #[.int .i64 a, .int .i64 (n + 0), .int .i64 (v + (-1)), .int .i64 p]) (by kernel_rfl) rfl (by kernel_rfl) (by kernel_rfl) rfl rfl (fun w' _ => by simp [go_sem]) hS (by simp [go_sem]; exact rfl) ?_
    refine pick_enter (i := 7) (f := 66) (args := #[.agg #[.int .i64 n, .int .i64 v, .int .i64 p], .int .i64 0, .int .i64 (-1)]) rfl (by kernel_rfl) rfl rfl (by simp [go_sem]) ?_
    refine (more_calls n v p (0) (-1) _ (by have := HM.out; rw [wrap64]; omega) (by have := HM.out; rw [wrap64]; omega)).mono ?_
    rintro e X2 ⟨rfl, hbx⟩
    have HX2 := hid (HX1.out.trans (hbx.mono HX1.out.size))
    clear hbx hS
    have hS := HCl.out _ HX2.out
    refine ⟨_, rfl, hS, ?_⟩
    refine pick_frame (by simp [go_sem]; exact rfl) ?_
    refine pick_op (i := 8) (v := .agg #[.int .i64 ((k : Int) + 1), .int .i64 (n + 0), .int .i64 (v + (-1)), .int .i64 p]) (by kernel_rfl) rfl (by kernel_rfl) (by kernel_rfl) rfl rfl (fun w' _ => by simp [go_sem]) hS (by simp [go_sem]; exact rfl) ?_
    have HA3 : Hid (Below X.heap.size X (X2.alloc (.cells #[.int .i64 a, .int .i64 (n + 0), .int .i64 (v + (-1)), .int .i64 p, .int .i64 ((k : Int) + 1), .int .i64 (n + 0), .int .i64 (v + (-1)), .int .i64 p] 67))) := HX2.out.alloc HX2.out.size _
    refine pick_make (i := 9) (v := .slice (some ⟨X2.heap.size, 0, none⟩) 2 2) (w1 := X2.alloc (.cells #[.int .i64 a, .int .i64 (n + 0), .int .i64 (v + (-1)), .int .i64 p, .int .i64 ((k : Int) + 1), .int .i64 (n + 0), .int .i64 (v + (-1)), .int .i64 p] 67)) rfl (by kernel_rfl) rfl rfl (by simp [go_sem]) (HCl.out _ HA3.out) (by simp [go_sem]; exact rfl) ?_
    refine pick_make (i := 10) (v := .slice (some ⟨X2.heap.size, 0, none⟩) 2 2) (w1 := X2.alloc (.cells #[.int .i64 a, .int .i64 (n + 0), .int .i64 (v + (-1)), .int .i64 p, .int .i64 ((k : Int) + 1), .int .i64 (n + 0), .int .i64 (v + (-1)), .int .i64 p] 67)) rfl (by kernel_rfl) rfl rfl (by simp [go_sem]) (HCl.out _ HA3.out) (by simp [go_sem]; exact rfl) ?_
    refine pick_end (by kernel_rfl) ?_
    have HE := hid (exits_two (W := W) (X := X2) (t := a) (n := (n + 0)) (v := (v + (-1))) (p := p) (t' := ((k : Int) + 1)) (n' := (n + 0)) (v' := (v + (-1))) (p' := p) (HBx.out.bel.trans (HX2.out.mono HBx.out.bel.size)) rfl rfl)
    obtain ⟨X3, hX3⟩ : ∃ X3, X2.alloc (.cells #[.int .i64 a, .int .i64 (n + 0), .int .i64 (v + (-1)), .int .i64 p, .int .i64 ((k : Int) + 1), .int .i64 (n + 0), .int .i64 (v + (-1)), .int .i64 p] 67) = X3 := ⟨_, rfl⟩
    rw [hX3] at HE ⊢
    clear hX3 hS HA3
    go_wp2_with fail
    go_ret
    rw [HX.out]
    exact HE.out
  · have hB1 : Below W.heap.size W (W.drew.alloc (.cells #[.int .i64 0, .int .i64 0, .int .i64 0] 43)) := hD.alloc hD.size _
    have hB2 : Below W.heap.size W ((W.drew.alloc (.cells #[.int .i64 0, .int .i64 0, .int .i64 0] 43)).alloc (.cells #[.int .i64 0, .int .i64 0, .int .i64 0, .int .i64 0] 31)) := hB1.alloc hB1.size _
    refine ⟨_, .pointer (some ⟨W.heap.size, 0, none⟩), (W.drew.alloc (.cells #[.int .i64 0, .int .i64 0, .int .i64 0] 43)), rfl, rfl, by simp [go_sem], HCl.out _ hB1, ?_⟩
    refine pick_frame (by simp [go_sem]; exact rfl) ?_
    refine pick_make (i := 16) (v := .pointer (some ⟨W.heap.size + 1, 0, none⟩)) (w1 := ((W.drew.alloc (.cells #[.int .i64 0, .int .i64 0, .int .i64 0] 43)).alloc (.cells #[.int .i64 0, .int .i64 0, .int .i64 0, .int .i64 0] 31))) rfl (by kernel_rfl) rfl rfl (by simp [go_sem]) (HCl.out _ hB2) (by simp [go_sem]; exact rfl) ?_
    have g5 : ((W.drew.alloc (.cells #[.int .i64 0, .int .i64 0, .int .i64 0] 43)).alloc (.cells #[.int .i64 0, .int .i64 0, .int .i64 0, .int .i64 0] 31)).heap[W.heap.size + 1]? = some (.cells #[.int .i64 0, .int .i64 0, .int .i64 0, .int .i64 0] 31) := (two_new W.drew _ _).2
    have g6 : ((W.drew.alloc (.cells #[.int .i64 0, .int .i64 0, .int .i64 0] 43)).alloc (.cells #[.int .i64 0, .int .i64 0, .int .i64 0, .int .i64 0] 31)).heap[W.heap.size]? = some (.cells #[.int .i64 0, .int .i64 0, .int .i64 0] 43) := (two_new W.drew _ _).1
    have HBx := hid (boxed hB2 g5 g6 (by omega) (by omega) 10 a b c n v p)
    have HB4 : Hid (Below W.heap.size W (put4 ((W.drew.alloc (.cells #[.int .i64 0, .int .i64 0, .int .i64 0] 43)).alloc (.cells #[.int .i64 0, .int .i64 0, .int .i64 0, .int .i64 0] 31)) (W.heap.size + 1) (.int .i64 10) (.int .i64 a) (.int .i64 b) (.int .i64 c))) := by
      obtain ⟨p1, p2, p3, p4, p5, p6⟩ := put4_is g5 (.int .i64 10) (.int .i64 a) (.int .i64 b) (.int .i64 c)
      exact ⟨p4.trans hB2.os, p5.trans hB2.tape, p6.trans hB2.output, by rw [p3]; exact hB2.size, fun q hq => (p2 q (by omega)).trans (hB2.block q hq)⟩
    refine pick_skip (i := 18) rfl (w1 := put4 ((W.drew.alloc (.cells #[.int .i64 0, .int .i64 0, .int .i64 0] 43)).alloc (.cells #[.int .i64 0, .int .i64 0, .int .i64 0, .int .i64 0] 31)) (W.heap.size + 1) (.int .i64 10) (.int .i64 a) (.int .i64 b) (.int .i64 c)) rfl (by kernel_rfl) rfl rfl (by simp [go_sem, put4]) (HCl.out _ HB4.out) ?_
    refine pick_skip (i := 19) rfl (w1 := put3 (put4 ((W.drew.alloc (.cells #[.int .i64 0, .int .i64 0, .int .i64 0] 43)).alloc (.cells #[.int .i64 0, .int .i64 0, .int .i64 0, .int .i64 0] 31)) (W.heap.size + 1) (.int .i64 10) (.int .i64 a) (.int .i64 b) (.int .i64 c)) (W.heap.size) (.int .i64 n) (.int .i64 v) (.int .i64 p)) rfl (by kernel_rfl) rfl rfl (by simp [go_sem, put4, put3]) (HCl.out _ HBx.out.bel) ?_
    refine pick_make (i := 20) (v := .int .i64 ((k : Int) + 1)) (w1 := put3 (put4 ((W.drew.alloc (.cells #[.int .i64 0, .int .i64 0, .int .i64 0] 43)).alloc (.cells #[.int .i64 0, .int .i64 0, .int .i64 0, .int .i64 0] 31)) (W.heap.size + 1) (.int .i64 10) (.int .i64 a) (.int .i64 b) (.int .i64 c)) (W.heap.size) (.int .i64 n) (.int .i64 v) (.int .i64 p)) rfl (by kernel_rfl) rfl rfl (by simp [go_sem]) (HCl.out _ HBx.out.bel) (by simp [go_sem]; exact rfl) ?_
    refine pick_end (by kernel_rfl) ?_
    obtain ⟨X, hX⟩ : ∃ X, put3 (put4 ((W.drew.alloc (.cells #[.int .i64 0, .int .i64 0, .int .i64 0] 43)).alloc (.cells #[.int .i64 0, .int .i64 0, .int .i64 0, .int .i64 0] 31)) (W.heap.size + 1) (.int .i64 10) (.int .i64 a) (.int .i64 b) (.int .i64 c)) (W.heap.size) (.int .i64 n) (.int .i64 v) (.int .i64 p) = X := ⟨_, rfl⟩
    rw [hX] at HBx ⊢
    obtain ⟨b5, hb5⟩ : ∃ x, W.heap.size + 1 = x := ⟨_, rfl⟩
    obtain ⟨b6, hb6⟩ : ∃ x, W.heap.size = x := ⟨_, rfl⟩
    rw [hb5] at HBx ⊢
    rw [hb6] at HBx ⊢
    clear hX hb5 hb6 g5 g6 hB1 hB2 HB4 hS HCl hD
    clear f0 f1 f2 f3 f4 f5 f6 f7 f8
    have i0 := cell_of_heap HBx.out.i 0
    have i1 := cell_of_heap HBx.out.i 1
    have i3 := cell_of_heap HBx.out.i 3
    have s0 := cell_of_heap HBx.out.s 0
    have s1 := cell_of_heap HBx.out.s 1
    have s2 := cell_of_heap HBx.out.s 2
    simp at i0 i1 i3 s0 s1 s2
    go_wp2_with fail
    have HCl : Hid (∀ Z, Below X.heap.size X Z → (fun w' : World => w'.cell? ⟨b5, 1, none⟩ = some (.int .i64 a) ∧ w'.cell? ⟨b6, 0, none⟩ = some (.int .i64 n) ∧ w'.cell? ⟨b6, 1, none⟩ = some (.int .i64 v) ∧ w'.cell? ⟨b6, 2, none⟩ = some (.int .i64 p)) Z) := fun Z hZ => ⟨(hZ.cell (block_in0 i1)).trans i1, (hZ.cell (block_in0 s0)).trans s0, (hZ.cell (block_in0 s1)).trans s1, (hZ.cell (block_in0 s2)).trans s2⟩
    have HD : Hid (Below X.heap.size X X.drew) := (Below.refl _ _).drew
    have hS := HCl.out _ HD.out
    clear i0 i1 i3 s0 s1 s2
    refine pick_begin (S := (fun w' : World => w'.cell? ⟨b5, 1, none⟩ = some (.int .i64 a) ∧ w'.cell? ⟨b6, 0, none⟩ = some (.int .i64 n) ∧ w'.cell? ⟨b6, 1, none⟩ = some (.int .i64 v) ∧ w'.cell? ⟨b6, 2, none⟩ = some (.int .i64 p))) (by kernel_rfl) rfl rfl ?_
    refine pick_op (i := 0) (v := .pointer (some ⟨b5, 1, none⟩)) (by kernel_rfl) rfl (by kernel_rfl) (by kernel_rfl) rfl rfl (fun w' _ => by simp [go_sem]) hS (by simp [go_sem]; exact rfl) ?_
    refine pick_op (i := 1) (v := .int .i64 a) (by kernel_rfl) rfl (by kernel_rfl) (by kernel_rfl) rfl rfl (fun w' h => by simp [go_sem, h.1]) hS (by simp [go_sem]; exact rfl) ?_
    refine pick_op (i := 2) (v := .agg #[.int .i64 n, .int .i64 v, .int .i64 p]) (by kernel_rfl) rfl (by kernel_rfl) (by kernel_rfl) rfl rfl (fun w' h => by simp [go_sem, h.2.1, h.2.2.1, h.2.2.2]) hS (by simp [go_sem]; exact rfl) ?_
    refine pick_op (i := 5) (v := .int .i64 ((k : Int) + 1)) (by kernel_rfl) rfl (by kernel_rfl) (by kernel_rfl) rfl rfl (fun w' _ => by simp [go_sem]) hS (by simp [go_sem]; exact rfl) ?_
    refine pick_op (i := 6) (v := .agg #[.int .i64 n, .int .i64 v, .int .i64 p]) (by kernel_rfl) rfl (by kernel_rfl) (by kernel_rfl) rfl rfl (fun w' h => by simp [go_sem, h.2.1, h.2.2.1, h.2.2.2]) hS (by simp [go_sem]; exact rfl) ?_
    refine pick_enter (i := 3) (f := 66) (args := #[.agg #[.int .i64 n, .int .i64 v, .int .i64 p], .int .i64 0, .int .i64 (-1)]) rfl (by kernel_rfl) rfl rfl (by simp [go_sem]) ?_
    refine (more_calls n v p (0) (-1) _ (by have := HM.out; rw [wrap64]; omega) (by have := HM.out; rw [wrap64]; omega)).mono ?_
    rintro e X1 ⟨rfl, hbx⟩
    have HX1 := hid (HD.out.trans (hbx.mono HD.out.size))
    clear hbx hS
    have hS := HCl.out _ HX1.out
    refine ⟨_, rfl, hS, ?_⟩
    refine pick_frame (by simp [go_sem]; exact rfl) ?_
    refine pick_op (i := 4) (v := .agg #[.int .i64 a, .int .i64 (n + 0), .int .i64 (v + (-1)), .int .i64 p]) (by kernel_rfl) rfl (by kernel_rfl) (by kernel_rfl) rfl rfl (fun w' _ => by simp [go_sem]) hS (by simp [go_sem]; exact rfl) ?_
    refine pick_enter (i := 7) (f := 66) (args := #[.agg #[.int .i64 n, .int .i64 v, .int .i64 p], .int .i64 0, .int .i64 (-1)]) rfl (by kernel_rfl) rfl rfl (by simp [go_sem]) ?_
    refine (more_calls n v p (0) (-1) _ (by have := HM.out; rw [wrap64]; omega) (by have := HM.out; rw [wrap64]; omega)).mono ?_
    rintro e X2 ⟨rfl, hbx⟩
    have HX2 := hid (HX1.out.trans (hbx.mono HX1.out.size))
    clear hbx hS
    have hS := HCl.out _ HX2.out
    refine ⟨_, rfl, hS, ?_⟩
    refine pick_frame (by simp [go_sem]; exact rfl) ?_
    refine pick_op (i := 8) (v := .agg #[.int .i64 ((k : Int) + 1), .int .i64 (n + 0), .int .i64 (v + (-1)), .int .i64 p]) (by kernel_rfl) rfl (by kernel_rfl) (by kernel_rfl) rfl rfl (fun w' _ => by simp [go_sem]) hS (by simp [go_sem]; exact rfl) ?_
    have HA3 : Hid (Below X.heap.size X (X2.alloc (.cells #[.int .i64 a, .int .i64 (n + 0), .int .i64 (v + (-1)), .int .i64 p, .int .i64 ((k : Int) + 1), .int .i64 (n + 0), .int .i64 (v + (-1)), .int .i64 p] 67))) := HX2.out.alloc HX2.out.size _
    refine pick_make (i := 9) (v := .slice (some ⟨X2.heap.size, 0, none⟩) 2 2) (w1 := X2.alloc (.cells #[.int .i64 a, .int .i64 (n + 0), .int .i64 (v + (-1)), .int .i64 p, .int .i64 ((k : Int) + 1), .int .i64 (n + 0), .int .i64 (v + (-1)), .int .i64 p] 67)) rfl (by kernel_rfl) rfl rfl (by simp [go_sem]) (HCl.out _ HA3.out) (by simp [go_sem]; exact rfl) ?_
    refine pick_make (i := 10) (v := .slice (some ⟨X2.heap.size, 0, none⟩) 2 2) (w1 := X2.alloc (.cells #[.int .i64 a, .int .i64 (n + 0), .int .i64 (v + (-1)), .int .i64 p, .int .i64 ((k : Int) + 1), .int .i64 (n + 0), .int .i64 (v + (-1)), .int .i64 p] 67)) rfl (by kernel_rfl) rfl rfl (by simp [go_sem]) (HCl.out _ HA3.out) (by simp [go_sem]; exact rfl) ?_
    refine pick_end (by kernel_rfl) ?_
    have HE := hid (exits_two (W := W) (X := X2) (t := a) (n := (n + 0)) (v := (v + (-1))) (p := p) (t' := ((k : Int) + 1)) (n' := (n + 0)) (v' := (v + (-1))) (p' := p) (HBx.out.bel.trans (HX2.out.mono HBx.out.bel.size)) rfl rfl)
    obtain ⟨X3, hX3⟩ : ∃ X3, X2.alloc (.cells #[.int .i64 a, .int .i64 (n + 0), .int .i64 (v + (-1)), .int .i64 p, .int .i64 ((k : Int) + 1), .int .i64 (n + 0), .int .i64 (v + (-1)), .int .i64 p] 67) = X3 := ⟨_, rfl⟩
    rw [hX3] at HE ⊢
    clear hX3 hS HA3
    go_wp2_with fail
    go_ret
    rw [HX.out]
    exact HE.out

set_option maxRecDepth 100000 in
set_option maxHeartbeats 8000000 in
theorem exits_19 {W : World} {Fb bc oc cc gs N k : Nat} {is : List In} {a b c n v p : Int} (hk0 : (0 : Int) ≤ (k : Int)) (hk1 : (k : Int) < (N : Int)) (hkN : k ≤ 1500) (hn0 : 0 ≤ n) (hn1 : n ≤ 100) (hv0 : 0 ≤ v) (hv1 : v ≤ 100) (f0 : W.cell? ⟨Fb, 0, none⟩ = some (.slice (some ⟨bc, oc, none⟩) N cc)) (f1 : W.cell? ⟨Fb, 1, none⟩ = some (.slice (some ⟨gs, 0, none⟩) N N)) (f2 : W.cell? ⟨bc, oc + k * 4, none⟩ = some (.int .i64 19)) (f3 : W.cell? ⟨bc, oc + k * 4 + 1, none⟩ = some (.int .i64 a)) (f4 : W.cell? ⟨bc, oc + k * 4 + 2, none⟩ = some (.int .i64 b)) (f5 : W.cell? ⟨bc, oc + k * 4 + 3, none⟩ = some (.int .i64 c)) (f6 : W.cell? ⟨gs, k * 3, none⟩ = some (.int .i64 n)) (f7 : W.cell? ⟨gs, k * 3 + 1, none⟩ = some (.int .i64 v)) (f8 : W.cell? ⟨gs, k * 3 + 2, none⟩ = some (.int .i64 p)) :
    Calls Tryz.prog 36 #[.pointer (some ⟨Fb, 0, none⟩), .int .i64 (k : Int)] W (ExitsP (exitsZ is k ⟨19, a, b, c⟩ ⟨n, v, p⟩) W) := by
  have hexz : exitsZ is k ⟨19, a, b, c⟩ ⟨n, v, p⟩ = [(a, (⟨n + 0, v + (-1), p⟩ : Sq)), ((k : Int) + 1, (⟨n + 2, v + (-1), p⟩ : Sq))] := by simp [exitsZ, Sq.more]
  have HX := hid hexz
  clear hexz
  have w1 : wrap64 ((k : Int) + 1) = (k : Int) + 1 := by rw [wrap64]; omega
  have w2 : wrap64 (n + 1) = n + 1 := by rw [wrap64]; omega
  have w3 : wrap64 (n + 2) = n + 2 := by rw [wrap64]; omega
  have HM : Hid (0 ≤ n ∧ n ≤ 100 ∧ 0 ≤ v ∧ v ≤ 100) := ⟨hn0, hn1, hv0, hv1⟩
  clear hn0 hn1 hv0 hv1 hkN
  go_enter Tryz.func36, Tryz.ntmps36
  go_wp2_with fail
  have hD : Below W.heap.size W W.drew := (Below.refl _ _).drew
  have HCl : Hid (∀ X, Below W.heap.size W X → (fun w' : World => w'.cell? ⟨Fb, 0, none⟩ = some (.slice (some ⟨bc, oc, none⟩) N cc) ∧ w'.cell? ⟨Fb, 1, none⟩ = some (.slice (some ⟨gs, 0, none⟩) N N) ∧ w'.cell? ⟨bc, oc + k * 4, none⟩ = some (.int .i64 19) ∧ w'.cell? ⟨bc, oc + k * 4 + 1, none⟩ = some (.int .i64 a) ∧ w'.cell? ⟨bc, oc + k * 4 + 2, none⟩ = some (.int .i64 b) ∧ w'.cell? ⟨bc, oc + k * 4 + 3, none⟩ = some (.int .i64 c) ∧ w'.cell? ⟨gs, k * 3, none⟩ = some (.int .i64 n) ∧ w'.cell? ⟨gs, k * 3 + 1, none⟩ = some (.int .i64 v) ∧ w'.cell? ⟨gs, k * 3 + 2, none⟩ = some (.int .i64 p)) X) := fun X hX => ⟨(hX.cell (block_in0 f0)).trans f0, (hX.cell (block_in0 f1)).trans f1, (hX.cell (block_in0 f2)).trans f2, (hX.cell (block_in0 f3)).trans f3, (hX.cell (block_in0 f4)).trans f4, (hX.cell (block_in0 f5)).trans f5, (hX.cell (block_in0 f6)).trans f6, (hX.cell (block_in0 f7)).trans f7, (hX.cell (block_in0 f8)).trans f8⟩
  have hS := HCl.out W.drew hD
  refine pick_begin (S := (fun w' : World => w'.cell? ⟨Fb, 0, none⟩ = some (.slice (some ⟨bc, oc, none⟩) N cc) ∧ w'.cell? ⟨Fb, 1, none⟩ = some (.slice (some ⟨gs, 0, none⟩) N N) ∧ w'.cell? ⟨bc, oc + k * 4, none⟩ = some (.int .i64 19) ∧ w'.cell? ⟨bc, oc + k * 4 + 1, none⟩ = some (.int .i64 a) ∧ w'.cell? ⟨bc, oc + k * 4 + 2, none⟩ = some (.int .i64 b) ∧ w'.cell? ⟨bc, oc + k * 4 + 3, none⟩ = some (.int .i64 c) ∧ w'.cell? ⟨gs, k * 3, none⟩ = some (.int .i64 n) ∧ w'.cell? ⟨gs, k * 3 + 1, none⟩ = some (.int .i64 v) ∧ w'.cell? ⟨gs, k * 3 + 2, none⟩ = some (.int .i64 p))) (by kernel_rfl) rfl rfl ?_
  refine pick_op (i := 0) (v := .pointer (some ⟨Fb, 0, none⟩)) (by kernel_rfl) rfl (by kernel_rfl) (by kernel_rfl) rfl rfl (fun w' _ => by simp [go_sem]) hS (by simp [go_sem]; exact rfl) ?_
  refine pick_op (i := 1) (v := .pointer (some ⟨Fb, 0, none⟩)) (by kernel_rfl) rfl (by kernel_rfl) (by kernel_rfl) rfl rfl (fun w' _ => by simp [go_sem]) hS (by simp [go_sem]; exact rfl) ?_
  refine pick_op (i := 2) (v := .pointer (some ⟨Fb, 0, none⟩)) (by kernel_rfl) rfl (by kernel_rfl) (by kernel_rfl) rfl rfl (fun w' _ => by simp [go_sem]) hS (by simp [go_sem]; exact rfl) ?_
  refine pick_op (i := 3) (v := .slice (some ⟨bc, oc, none⟩) N cc) (by kernel_rfl) rfl (by kernel_rfl) (by kernel_rfl) rfl rfl (fun w' h => by simp [go_sem, h.1]) hS (by simp [go_sem]; exact rfl) ?_
  refine pick_op (i := 4) (v := .int .i64 (k : Int)) (by kernel_rfl) rfl (by kernel_rfl) (by kernel_rfl) rfl rfl (fun w' _ => by simp [go_sem]) hS (by simp [go_sem]; exact rfl) ?_
  refine pick_op (i := 5) (v := .pointer (some ⟨bc, oc + k * 4, none⟩)) (by kernel_rfl) rfl (by kernel_rfl) (by kernel_rfl) rfl rfl (fun w' _ => by simp [go_sem, hk0, hk1]) hS (by simp [go_sem]; exact rfl) ?_
  refine pick_op (i := 6) (v := .agg #[.int .i64 19, .int .i64 a, .int .i64 b, .int .i64 c]) (by kernel_rfl) rfl (by kernel_rfl) (by kernel_rfl) rfl rfl (fun w' h => by simp [go_sem, h.2.2.1, h.2.2.2.1, h.2.2.2.2.1, h.2.2.2.2.2.1]) hS (by simp [go_sem]; exact rfl) ?_
  refine pick_op (i := 7) (v := .pointer (some ⟨Fb, 0, none⟩)) (by kernel_rfl) rfl (by kernel_rfl) (by kernel_rfl) rfl rfl (fun w' _ => by simp [go_sem]) hS (by simp [go_sem]; exact rfl) ?_
  refine pick_op (i := 8) (v := .pointer (some ⟨Fb, 0, none⟩)) (by kernel_rfl) rfl (by kernel_rfl) (by kernel_rfl) rfl rfl (fun w' _ => by simp [go_sem]) hS (by simp [go_sem]; exact rfl) ?_
  refine pick_op (i := 9) (v := .pointer (some ⟨Fb, 1, none⟩)) (by kernel_rfl) rfl (by kernel_rfl) (by kernel_rfl) rfl rfl (fun w' _ => by simp [go_sem]) hS (by simp [go_sem]; exact rfl) ?_
  refine pick_op (i := 10) (v := .slice (some ⟨gs, 0, none⟩) N N) (by kernel_rfl) rfl (by kernel_rfl) (by kernel_rfl) rfl rfl (fun w' h => by simp [go_sem, h.2.1]) hS (by simp [go_sem]; exact rfl) ?_
  refine pick_op (i := 11) (v := .int .i64 (k : Int)) (by kernel_rfl) rfl (by kernel_rfl) (by kernel_rfl) rfl rfl (fun w' _ => by simp [go_sem]) hS (by simp [go_sem]; exact rfl) ?_
  refine pick_op (i := 12) (v := .pointer (some ⟨gs, k * 3, none⟩)) (by kernel_rfl) rfl (by kernel_rfl) (by kernel_rfl) rfl rfl (fun w' _ => by simp [go_sem, hk0, hk1]) hS (by simp [go_sem]; exact rfl) ?_
  refine pick_op (i := 13) (v := .agg #[.int .i64 n, .int .i64 v, .int .i64 p]) (by kernel_rfl) rfl (by kernel_rfl) (by kernel_rfl) rfl rfl (fun w' h => by simp [go_sem, h.2.2.2.2.2.2.1, h.2.2.2.2.2.2.2.1, h.2.2.2.2.2.2.2.2]) hS (by simp [go_sem]; exact rfl) ?_
  refine pick_op (i := 14) (v := .int .i64 (k : Int)) (by kernel_rfl) rfl (by kernel_rfl) (by kernel_rfl) rfl rfl (fun w' _ => by simp [go_sem]) hS (by simp [go_sem]; exact rfl) ?_
  refine pick_op (i := 15) (v := .int .i64 ((k : Int) + 1)) (by kernel_rfl) rfl (by kernel_rfl) (by kernel_rfl) rfl rfl (fun w' _ => by simp [go_sem]; exact (IntWalk.i64_left _).trans w1) hS (by simp [go_sem]; exact rfl) ?_
  refine pick_fork (i := 16) (j := 17) (by kernel_rfl) ?_ ?_
  · have hB1 : Below W.heap.size W (W.drew.alloc (.cells #[.int .i64 0, .int .i64 0, .int .i64 0, .int .i64 0] 31)) := hD.alloc hD.size _
    have hB2 : Below W.heap.size W ((W.drew.alloc (.cells #[.int .i64 0, .int .i64 0, .int .i64 0, .int .i64 0] 31)).alloc (.cells #[.int .i64 0, .int .i64 0, .int .i64 0] 43)) := hB1.alloc hB1.size _
    refine ⟨_, .pointer (some ⟨W.heap.size, 0, none⟩), (W.drew.alloc (.cells #[.int .i64 0, .int .i64 0, .int .i64 0, .int .i64 0] 31)), rfl, rfl, by simp [go_sem], HCl.out _ hB1, ?_⟩
    refine pick_frame (by simp [go_sem]; exact rfl) ?_
    refine pick_make (i := 17) (v := .pointer (some ⟨W.heap.size + 1, 0, none⟩)) (w1 := ((W.drew.alloc (.cells #[.int .i64 0, .int .i64 0, .int .i64 0, .int .i64 0] 31)).alloc (.cells #[.int .i64 0, .int .i64 0, .int .i64 0] 43))) rfl (by kernel_rfl) rfl rfl (by simp [go_sem]) (HCl.out _ hB2) (by simp [go_sem]; exact rfl) ?_
    have g5 : ((W.drew.alloc (.cells #[.int .i64 0, .int .i64 0, .int .i64 0, .int .i64 0] 31)).alloc (.cells #[.int .i64 0, .int .i64 0, .int .i64 0] 43)).heap[W.heap.size]? = some (.cells #[.int .i64 0, .int .i64 0, .int .i64 0, .int .i64 0] 31) := (two_new W.drew _ _).1
    have g6 : ((W.drew.alloc (.cells #[.int .i64 0, .int .i64 0, .int .i64 0, .int .i64 0] 31)).alloc (.cells #[.int .i64 0, .int .i64 0, .int .i64 0] 43)).heap[W.heap.size + 1]? = some (.cells #[.int .i64 0, .int .i64 0, .int .i64 0] 43) := (two_new W.drew _ _).2
    have HBx := hid (boxed hB2 g5 g6 (by omega) (by omega) 19 a b c n v p)
    have HB4 : Hid (Below W.heap.size W (put4 ((W.drew.alloc (.cells #[.int .i64 0, .int .i64 0, .int .i64 0, .int .i64 0] 31)).alloc (.cells #[.int .i64 0, .int .i64 0, .int .i64 0] 43)) (W.heap.size) (.int .i64 19) (.int .i64 a) (.int .i64 b) (.int .i64 c))) := by
      obtain ⟨p1, p2, p3, p4, p5, p6⟩ := put4_is g5 (.int .i64 19) (.int .i64 a) (.int .i64 b) (.int .i64 c)
      exact ⟨p4.trans hB2.os, p5.trans hB2.tape, p6.trans hB2.output, by rw [p3]; exact hB2.size, fun q hq => (p2 q (by omega)).trans (hB2.block q hq)⟩
    refine pick_skip (i := 18) rfl (w1 := put4 ((W.drew.alloc (.cells #[.int .i64 0, .int .i64 0, .int .i64 0, .int .i64 0] 31)).alloc (.cells #[.int .i64 0, .int .i64 0, .int .i64 0] 43)) (W.heap.size) (.int .i64 19) (.int .i64 a) (.int .i64 b) (.int .i64 c)) rfl (by kernel_rfl) rfl rfl (by simp [go_sem, put4]) (HCl.out _ HB4.out) ?_
    refine pick_skip (i := 19) rfl (w1 := put3 (put4 ((W.drew.alloc (.cells #[.int .i64 0, .int .i64 0, .int .i64 0, .int .i64 0] 31)).alloc (.cells #[.int .i64 0, .int .i64 0, .int .i64 0] 43)) (W.heap.size) (.int .i64 19) (.int .i64 a) (.int .i64 b) (.int .i64 c)) (W.heap.size + 1) (.int .i64 n) (.int .i64 v) (.int .i64 p)) rfl (by kernel_rfl) rfl rfl (by simp [go_sem, put4, put3]) (HCl.out _ HBx.out.bel) ?_
    refine pick_make (i := 20) (v := .int .i64 ((k : Int) + 1)) (w1 := put3 (put4 ((W.drew.alloc (.cells #[.int .i64 0, .int .i64 0, .int .i64 0, .int .i64 0] 31)).alloc (.cells #[.int .i64 0, .int .i64 0, .int .i64 0] 43)) (W.heap.size) (.int .i64 19) (.int .i64 a) (.int .i64 b) (.int .i64 c)) (W.heap.size + 1) (.int .i64 n) (.int .i64 v) (.int .i64 p)) rfl (by kernel_rfl) rfl rfl (by simp [go_sem]) (HCl.out _ HBx.out.bel) (by simp [go_sem]; exact rfl) ?_
    refine pick_end (by kernel_rfl) ?_
    obtain ⟨X, hX⟩ : ∃ X, put3 (put4 ((W.drew.alloc (.cells #[.int .i64 0, .int .i64 0, .int .i64 0, .int .i64 0] 31)).alloc (.cells #[.int .i64 0, .int .i64 0, .int .i64 0] 43)) (W.heap.size) (.int .i64 19) (.int .i64 a) (.int .i64 b) (.int .i64 c)) (W.heap.size + 1) (.int .i64 n) (.int .i64 v) (.int .i64 p) = X := ⟨_, rfl⟩
    rw [hX] at HBx ⊢
    obtain ⟨b5, hb5⟩ : ∃ x, W.heap.size = x := ⟨_, rfl⟩
    obtain ⟨b6, hb6⟩ : ∃ x, W.heap.size + 1 = x := ⟨_, rfl⟩
    rw [hb6] at HBx ⊢
    rw [hb5] at HBx ⊢
    clear hX hb5 hb6 g5 g6 hB1 hB2 HB4 hS HCl hD
    clear f0 f1 f2 f3 f4 f5 f6 f7 f8
    have i0 := cell_of_heap HBx.out.i 0
    have i1 := cell_of_heap HBx.out.i 1
    have i3 := cell_of_heap HBx.out.i 3
    have s0 := cell_of_heap HBx.out.s 0
    have s1 := cell_of_heap HBx.out.s 1
    have s2 := cell_of_heap HBx.out.s 2
    simp at i0 i1 i3 s0 s1 s2
    go_wp2_with fail
    have HCl : Hid (∀ Z, Below X.heap.size X Z → (fun w' : World => w'.cell? ⟨b5, 1, none⟩ = some (.int .i64 a) ∧ w'.cell? ⟨b6, 0, none⟩ = some (.int .i64 n) ∧ w'.cell? ⟨b6, 1, none⟩ = some (.int .i64 v) ∧ w'.cell? ⟨b6, 2, none⟩ = some (.int .i64 p)) Z) := fun Z hZ => ⟨(hZ.cell (block_in0 i1)).trans i1, (hZ.cell (block_in0 s0)).trans s0, (hZ.cell (block_in0 s1)).trans s1, (hZ.cell (block_in0 s2)).trans s2⟩
    have HD : Hid (Below X.heap.size X X.drew) := (Below.refl _ _).drew
    have hS := HCl.out _ HD.out
    clear i0 i1 i3 s0 s1 s2
    refine pick_begin (S := (fun w' : World => w'.cell? ⟨b5, 1, none⟩ = some (.int .i64 a) ∧ w'.cell? ⟨b6, 0, none⟩ = some (.int .i64 n) ∧ w'.cell? ⟨b6, 1, none⟩ = some (.int .i64 v) ∧ w'.cell? ⟨b6, 2, none⟩ = some (.int .i64 p))) (by kernel_rfl) rfl rfl ?_
    refine pick_op (i := 0) (v := .pointer (some ⟨b5, 1, none⟩)) (by kernel_rfl) rfl (by kernel_rfl) (by kernel_rfl) rfl rfl (fun w' _ => by simp [go_sem]) hS (by simp [go_sem]; exact rfl) ?_
    refine pick_op (i := 1) (v := .int .i64 a) (by kernel_rfl) rfl (by kernel_rfl) (by kernel_rfl) rfl rfl (fun w' h => by simp [go_sem, h.1]) hS (by simp [go_sem]; exact rfl) ?_
    refine pick_op (i := 2) (v := .agg #[.int .i64 n, .int .i64 v, .int .i64 p]) (by kernel_rfl) rfl (by kernel_rfl) (by kernel_rfl) rfl rfl (fun w' h => by simp [go_sem, h.2.1, h.2.2.1, h.2.2.2]) hS (by simp [go_sem]; exact rfl) ?_
    refine pick_op (i := 5) (v := .int .i64 ((k : Int) + 1)) (by kernel_rfl) rfl (by kernel_rfl) (by kernel_rfl) rfl rfl (fun w' _ => by simp [go_sem]) hS (by simp [go_sem]; exact rfl) ?_
    refine pick_op (i := 6) (v := .agg #[.int .i64 n, .int .i64 v, .int .i64 p]) (by kernel_rfl) rfl (by kernel_rfl) (by kernel_rfl) rfl rfl (fun w' h => by simp [go_sem, h.2.1, h.2.2.1, h.2.2.2]) hS (by simp [go_sem]; exact rfl) ?_
    refine pick_enter (i := 3) (f := 66) (args := #[.agg #[.int .i64 n, .int .i64 v, .int .i64 p], .int .i64 0, .int .i64 (-1)]) rfl (by kernel_rfl) rfl rfl (by simp [go_sem]) ?_
    refine (more_calls n v p (0) (-1) _ (by have := HM.out; rw [wrap64]; omega) (by have := HM.out; rw [wrap64]; omega)).mono ?_
    rintro e X1 ⟨rfl, hbx⟩
    have HX1 := hid (HD.out.trans (hbx.mono HD.out.size))
    clear hbx hS
    have hS := HCl.out _ HX1.out
    refine ⟨_, rfl, hS, ?_⟩
    refine pick_frame (by simp [go_sem]; exact rfl) ?_
    refine pick_op (i := 4) (v := .agg #[.int .i64 a, .int .i64 (n + 0), .int .i64 (v + (-1)), .int .i64 p]) (by kernel_rfl) rfl (by kernel_rfl) (by kernel_rfl) rfl rfl (fun w' _ => by simp [go_sem]) hS (by simp [go_sem]; exact rfl) ?_
    refine pick_enter (i := 7) (f := 66) (args := #[.agg #[.int .i64 n, .int .i64 v, .int .i64 p], .int .i64 2, .int .i64 (-1)]) rfl (by kernel_rfl) rfl rfl (by simp [go_sem]) ?_
    refine (more_calls n v p (2) (-1) _ (by have := HM.out; rw [wrap64]; omega) (by have := HM.out; rw [wrap64]; omega)).mono ?_
    rintro e X2 ⟨rfl, hbx⟩
    have HX2 := hid (HX1.out.trans (hbx.mono HX1.out.size))
    clear hbx hS
    have hS := HCl.out _ HX2.out
    refine ⟨_, rfl, hS, ?_⟩
    refine pick_frame (by simp [go_sem]; exact rfl) ?_
    refine pick_op (i := 8) (v := .agg #[.int .i64 ((k : Int) + 1), .int .i64 (n + 2), .int .i64 (v + (-1)), .int .i64 p]) (by kernel_rfl) rfl (by kernel_rfl) (by kernel_rfl) rfl rfl (fun w' _ => by simp [go_sem]) hS (by simp [go_sem]; exact rfl) ?_
    have HA3 : Hid (Below X.heap.size X (X2.alloc (.cells #[.int .i64 a, .int .i64 (n + 0), .int .i64 (v + (-1)), .int .i64 p, .int .i64 ((k : Int) + 1), .int .i64 (n + 2), .int .i64 (v + (-1)), .int .i64 p] 67))) := HX2.out.alloc HX2.out.size _
    refine pick_make (i := 9) (v := .slice (some ⟨X2.heap.size, 0, none⟩) 2 2) (w1 := X2.alloc (.cells #[.int .i64 a, .int .i64 (n + 0), .int .i64 (v + (-1)), .int .i64 p, .int .i64 ((k : Int) + 1), .int .i64 (n + 2), .int .i64 (v + (-1)), .int .i64 p] 67)) rfl (by kernel_rfl) rfl rfl (by simp [go_sem]) (HCl.out _ HA3.out) (by simp [go_sem]; exact rfl) ?_
    refine pick_make (i := 10) (v := .slice (some ⟨X2.heap.size, 0, none⟩) 2 2) (w1 := X2.alloc (.cells #[.int .i64 a, .int .i64 (n + 0), .int .i64 (v + (-1)), .int .i64 p, .int .i64 ((k : Int) + 1), .int .i64 (n + 2), .int .i64 (v + (-1)), .int .i64 p] 67)) rfl (by kernel_rfl) rfl rfl (by simp [go_sem]) (HCl.out _ HA3.out) (by simp [go_sem]; exact rfl) ?_
    refine pick_end (by kernel_rfl) ?_
    have HE := hid (exits_two (W := W) (X := X2) (t := a) (n := (n + 0)) (v := (v + (-1))) (p := p) (t' := ((k : Int) + 1)) (n' := (n + 2)) (v' := (v + (-1))) (p' := p) (HBx.out.bel.trans (HX2.out.mono HBx.out.bel.size)) rfl rfl)
    obtain ⟨X3, hX3⟩ : ∃ X3, X2.alloc (.cells #[.int .i64 a, .int .i64 (n + 0), .int .i64 (v + (-1)), .int .i64 p, .int .i64 ((k : Int) + 1), .int .i64 (n + 2), .int .i64 (v + (-1)), .int .i64 p] 67) = X3 := ⟨_, rfl⟩
    rw [hX3] at HE ⊢
    clear hX3 hS HA3
    go_wp2_with fail
    go_ret
    rw [HX.out]
    exact HE.out
  · have hB1 : Below W.heap.size W (W.drew.alloc (.cells #[.int .i64 0, .int .i64 0, .int .i64 0] 43)) := hD.alloc hD.size _
    have hB2 : Below W.heap.size W ((W.drew.alloc (.cells #[.int .i64 0, .int .i64 0, .int .i64 0] 43)).alloc (.cells #[.int .i64 0, .int .i64 0, .int .i64 0, .int .i64 0] 31)) := hB1.alloc hB1.size _
    refine ⟨_, .pointer (some ⟨W.heap.size, 0, none⟩), (W.drew.alloc (.cells #[.int .i64 0, .int .i64 0, .int .i64 0] 43)), rfl, rfl, by simp [go_sem], HCl.out _ hB1, ?_⟩
    refine pick_frame (by simp [go_sem]; exact rfl) ?_
    refine pick_make (i := 16) (v := .pointer (some ⟨W.heap.size + 1, 0, none⟩)) (w1 := ((W.drew.alloc (.cells #[.int .i64 0, .int .i64 0, .int .i64 0] 43)).alloc (.cells #[.int .i64 0, .int .i64 0, .int .i64 0, .int .i64 0] 31))) rfl (by kernel_rfl) rfl rfl (by simp [go_sem]) (HCl.out _ hB2) (by simp [go_sem]; exact rfl) ?_
    have g5 : ((W.drew.alloc (.cells #[.int .i64 0, .int .i64 0, .int .i64 0] 43)).alloc (.cells #[.int .i64 0, .int .i64 0, .int .i64 0, .int .i64 0] 31)).heap[W.heap.size + 1]? = some (.cells #[.int .i64 0, .int .i64 0, .int .i64 0, .int .i64 0] 31) := (two_new W.drew _ _).2
    have g6 : ((W.drew.alloc (.cells #[.int .i64 0, .int .i64 0, .int .i64 0] 43)).alloc (.cells #[.int .i64 0, .int .i64 0, .int .i64 0, .int .i64 0] 31)).heap[W.heap.size]? = some (.cells #[.int .i64 0, .int .i64 0, .int .i64 0] 43) := (two_new W.drew _ _).1
    have HBx := hid (boxed hB2 g5 g6 (by omega) (by omega) 19 a b c n v p)
    have HB4 : Hid (Below W.heap.size W (put4 ((W.drew.alloc (.cells #[.int .i64 0, .int .i64 0, .int .i64 0] 43)).alloc (.cells #[.int .i64 0, .int .i64 0, .int .i64 0, .int .i64 0] 31)) (W.heap.size + 1) (.int .i64 19) (.int .i64 a) (.int .i64 b) (.int .i64 c))) := by
      obtain ⟨p1, p2, p3, p4, p5, p6⟩ := put4_is g5 (.int .i64 19) (.int .i64 a) (.int .i64 b) (.int .i64 c)
      exact ⟨p4.trans hB2.os, p5.trans hB2.tape, p6.trans hB2.output, by rw [p3]; exact hB2.size, fun q hq => (p2 q (by omega)).trans (hB2.block q hq)⟩
    refine pick_skip (i := 18) rfl (w1 := put4 ((W.drew.alloc (.cells #[.int .i64 0, .int .i64 0, .int .i64 0] 43)).alloc (.cells #[.int .i64 0, .int .i64 0, .int .i64 0, .int .i64 0] 31)) (W.heap.size + 1) (.int .i64 19) (.int .i64 a) (.int .i64 b) (.int .i64 c)) rfl (by kernel_rfl) rfl rfl (by simp [go_sem, put4]) (HCl.out _ HB4.out) ?_
    refine pick_skip (i := 19) rfl (w1 := put3 (put4 ((W.drew.alloc (.cells #[.int .i64 0, .int .i64 0, .int .i64 0] 43)).alloc (.cells #[.int .i64 0, .int .i64 0, .int .i64 0, .int .i64 0] 31)) (W.heap.size + 1) (.int .i64 19) (.int .i64 a) (.int .i64 b) (.int .i64 c)) (W.heap.size) (.int .i64 n) (.int .i64 v) (.int .i64 p)) rfl (by kernel_rfl) rfl rfl (by simp [go_sem, put4, put3]) (HCl.out _ HBx.out.bel) ?_
    refine pick_make (i := 20) (v := .int .i64 ((k : Int) + 1)) (w1 := put3 (put4 ((W.drew.alloc (.cells #[.int .i64 0, .int .i64 0, .int .i64 0] 43)).alloc (.cells #[.int .i64 0, .int .i64 0, .int .i64 0, .int .i64 0] 31)) (W.heap.size + 1) (.int .i64 19) (.int .i64 a) (.int .i64 b) (.int .i64 c)) (W.heap.size) (.int .i64 n) (.int .i64 v) (.int .i64 p)) rfl (by kernel_rfl) rfl rfl (by simp [go_sem]) (HCl.out _ HBx.out.bel) (by simp [go_sem]; exact rfl) ?_
    refine pick_end (by kernel_rfl) ?_
    obtain ⟨X, hX⟩ : ∃ X, put3 (put4 ((W.drew.alloc (.cells #[.int .i64 0, .int .i64 0, .int .i64 0] 43)).alloc (.cells #[.int .i64 0, .int .i64 0, .int .i64 0, .int .i64 0] 31)) (W.heap.size + 1) (.int .i64 19) (.int .i64 a) (.int .i64 b) (.int .i64 c)) (W.heap.size) (.int .i64 n) (.int .i64 v) (.int .i64 p) = X := ⟨_, rfl⟩
    rw [hX] at HBx ⊢
    obtain ⟨b5, hb5⟩ : ∃ x, W.heap.size + 1 = x := ⟨_, rfl⟩
    obtain ⟨b6, hb6⟩ : ∃ x, W.heap.size = x := ⟨_, rfl⟩
    rw [hb5] at HBx ⊢
    rw [hb6] at HBx ⊢
    clear hX hb5 hb6 g5 g6 hB1 hB2 HB4 hS HCl hD
    clear f0 f1 f2 f3 f4 f5 f6 f7 f8
    have i0 := cell_of_heap HBx.out.i 0
    have i1 := cell_of_heap HBx.out.i 1
    have i3 := cell_of_heap HBx.out.i 3
    have s0 := cell_of_heap HBx.out.s 0
    have s1 := cell_of_heap HBx.out.s 1
    have s2 := cell_of_heap HBx.out.s 2
    simp at i0 i1 i3 s0 s1 s2
    go_wp2_with fail
    have HCl : Hid (∀ Z, Below X.heap.size X Z → (fun w' : World => w'.cell? ⟨b5, 1, none⟩ = some (.int .i64 a) ∧ w'.cell? ⟨b6, 0, none⟩ = some (.int .i64 n) ∧ w'.cell? ⟨b6, 1, none⟩ = some (.int .i64 v) ∧ w'.cell? ⟨b6, 2, none⟩ = some (.int .i64 p)) Z) := fun Z hZ => ⟨(hZ.cell (block_in0 i1)).trans i1, (hZ.cell (block_in0 s0)).trans s0, (hZ.cell (block_in0 s1)).trans s1, (hZ.cell (block_in0 s2)).trans s2⟩
    have HD : Hid (Below X.heap.size X X.drew) := (Below.refl _ _).drew
    have hS := HCl.out _ HD.out
    clear i0 i1 i3 s0 s1 s2
    refine pick_begin (S := (fun w' : World => w'.cell? ⟨b5, 1, none⟩ = some (.int .i64 a) ∧ w'.cell? ⟨b6, 0, none⟩ = some (.int .i64 n) ∧ w'.cell? ⟨b6, 1, none⟩ = some (.int .i64 v) ∧ w'.cell? ⟨b6, 2, none⟩ = some (.int .i64 p))) (by kernel_rfl) rfl rfl ?_
    refine pick_op (i := 0) (v := .pointer (some ⟨b5, 1, none⟩)) (by kernel_rfl) rfl (by kernel_rfl) (by kernel_rfl) rfl rfl (fun w' _ => by simp [go_sem]) hS (by simp [go_sem]; exact rfl) ?_
    refine pick_op (i := 1) (v := .int .i64 a) (by kernel_rfl) rfl (by kernel_rfl) (by kernel_rfl) rfl rfl (fun w' h => by simp [go_sem, h.1]) hS (by simp [go_sem]; exact rfl) ?_
    refine pick_op (i := 2) (v := .agg #[.int .i64 n, .int .i64 v, .int .i64 p]) (by kernel_rfl) rfl (by kernel_rfl) (by kernel_rfl) rfl rfl (fun w' h => by simp [go_sem, h.2.1, h.2.2.1, h.2.2.2]) hS (by simp [go_sem]; exact rfl) ?_
    refine pick_op (i := 5) (v := .int .i64 ((k : Int) + 1)) (by kernel_rfl) rfl (by kernel_rfl) (by kernel_rfl) rfl rfl (fun w' _ => by simp [go_sem]) hS (by simp [go_sem]; exact rfl) ?_
    refine pick_op (i := 6) (v := .agg #[.int .i64 n, .int .i64 v, .int .i64 p]) (by kernel_rfl) rfl (by kernel_rfl) (by kernel_rfl) rfl rfl (fun w' h => by simp [go_sem, h.2.1, h.2.2.1, h.2.2.2]) hS (by simp [go_sem]; exact rfl) ?_
    refine pick_enter (i := 3) (f := 66) (args := #[.agg #[.int .i64 n, .int .i64 v, .int .i64 p], .int .i64 0, .int .i64 (-1)]) rfl (by kernel_rfl) rfl rfl (by simp [go_sem]) ?_
    refine (more_calls n v p (0) (-1) _ (by have := HM.out; rw [wrap64]; omega) (by have := HM.out; rw [wrap64]; omega)).mono ?_
    rintro e X1 ⟨rfl, hbx⟩
    have HX1 := hid (HD.out.trans (hbx.mono HD.out.size))
    clear hbx hS
    have hS := HCl.out _ HX1.out
    refine ⟨_, rfl, hS, ?_⟩
    refine pick_frame (by simp [go_sem]; exact rfl) ?_
    refine pick_op (i := 4) (v := .agg #[.int .i64 a, .int .i64 (n + 0), .int .i64 (v + (-1)), .int .i64 p]) (by kernel_rfl) rfl (by kernel_rfl) (by kernel_rfl) rfl rfl (fun w' _ => by simp [go_sem]) hS (by simp [go_sem]; exact rfl) ?_
    refine pick_enter (i := 7) (f := 66) (args := #[.agg #[.int .i64 n, .int .i64 v, .int .i64 p], .int .i64 2, .int .i64 (-1)]) rfl (by kernel_rfl) rfl rfl (by simp [go_sem]) ?_
    refine (more_calls n v p (2) (-1) _ (by have := HM.out; rw [wrap64]; omega) (by have := HM.out; rw [wrap64]; omega)).mono ?_
    rintro e X2 ⟨rfl, hbx⟩
    have HX2 := hid (HX1.out.trans (hbx.mono HX1.out.size))
    clear hbx hS
    have hS := HCl.out _ HX2.out
    refine ⟨_, rfl, hS, ?_⟩
    refine pick_frame (by simp [go_sem]; exact rfl) ?_
    refine pick_op (i := 8) (v := .agg #[.int .i64 ((k : Int) + 1), .int .i64 (n + 2), .int .i64 (v + (-1)), .int .i64 p]) (by kernel_rfl) rfl (by kernel_rfl) (by kernel_rfl) rfl rfl (fun w' _ => by simp [go_sem]) hS (by simp [go_sem]; exact rfl) ?_
    have HA3 : Hid (Below X.heap.size X (X2.alloc (.cells #[.int .i64 a, .int .i64 (n + 0), .int .i64 (v + (-1)), .int .i64 p, .int .i64 ((k : Int) + 1), .int .i64 (n + 2), .int .i64 (v + (-1)), .int .i64 p] 67))) := HX2.out.alloc HX2.out.size _
    refine pick_make (i := 9) (v := .slice (some ⟨X2.heap.size, 0, none⟩) 2 2) (w1 := X2.alloc (.cells #[.int .i64 a, .int .i64 (n + 0), .int .i64 (v + (-1)), .int .i64 p, .int .i64 ((k : Int) + 1), .int .i64 (n + 2), .int .i64 (v + (-1)), .int .i64 p] 67)) rfl (by kernel_rfl) rfl rfl (by simp [go_sem]) (HCl.out _ HA3.out) (by simp [go_sem]; exact rfl) ?_
    refine pick_make (i := 10) (v := .slice (some ⟨X2.heap.size, 0, none⟩) 2 2) (w1 := X2.alloc (.cells #[.int .i64 a, .int .i64 (n + 0), .int .i64 (v + (-1)), .int .i64 p, .int .i64 ((k : Int) + 1), .int .i64 (n + 2), .int .i64 (v + (-1)), .int .i64 p] 67)) rfl (by kernel_rfl) rfl rfl (by simp [go_sem]) (HCl.out _ HA3.out) (by simp [go_sem]; exact rfl) ?_
    refine pick_end (by kernel_rfl) ?_
    have HE := hid (exits_two (W := W) (X := X2) (t := a) (n := (n + 0)) (v := (v + (-1))) (p := p) (t' := ((k : Int) + 1)) (n' := (n + 2)) (v' := (v + (-1))) (p' := p) (HBx.out.bel.trans (HX2.out.mono HBx.out.bel.size)) rfl rfl)
    obtain ⟨X3, hX3⟩ : ∃ X3, X2.alloc (.cells #[.int .i64 a, .int .i64 (n + 0), .int .i64 (v + (-1)), .int .i64 p, .int .i64 ((k : Int) + 1), .int .i64 (n + 2), .int .i64 (v + (-1)), .int .i64 p] 67) = X3 := ⟨_, rfl⟩
    rw [hX3] at HE ⊢
    clear hX3 hS HA3
    go_wp2_with fail
    go_ret
    rw [HX.out]
    exact HE.out

set_option maxRecDepth 100000 in
set_option maxHeartbeats 8000000 in
theorem exits_21 {W : World} {Fb bc oc cc gs N k : Nat} {is : List In} {a b c n v p : Int} (hk0 : (0 : Int) ≤ (k : Int)) (hk1 : (k : Int) < (N : Int)) (hkN : k ≤ 1500) (hn0 : 0 ≤ n) (hn1 : n ≤ 100) (hv0 : 0 ≤ v) (hv1 : v ≤ 100) (f0 : W.cell? ⟨Fb, 0, none⟩ = some (.slice (some ⟨bc, oc, none⟩) N cc)) (f1 : W.cell? ⟨Fb, 1, none⟩ = some (.slice (some ⟨gs, 0, none⟩) N N)) (f2 : W.cell? ⟨bc, oc + k * 4, none⟩ = some (.int .i64 21)) (f3 : W.cell? ⟨bc, oc + k * 4 + 1, none⟩ = some (.int .i64 a)) (f4 : W.cell? ⟨bc, oc + k * 4 + 2, none⟩ = some (.int .i64 b)) (f5 : W.cell? ⟨bc, oc + k * 4 + 3, none⟩ = some (.int .i64 c)) (f6 : W.cell? ⟨gs, k * 3, none⟩ = some (.int .i64 n)) (f7 : W.cell? ⟨gs, k * 3 + 1, none⟩ = some (.int .i64 v)) (f8 : W.cell? ⟨gs, k * 3 + 2, none⟩ = some (.int .i64 p)) (hH : ∀ X, Below W.heap.size W X → Calls Tryz.prog 68 #[.pointer (some ⟨Fb, 0, none⟩), .int .i64 (k : Int)] X (ExitsP (exitsZ is k ⟨21, a, b, c⟩ ⟨n, v, p⟩) X)) :
    Calls Tryz.prog 36 #[.pointer (some ⟨Fb, 0, none⟩), .int .i64 (k : Int)] W (ExitsP (exitsZ is k ⟨21, a, b, c⟩ ⟨n, v, p⟩) W) := by
  have HH := hid hH
  clear hH
  have w1 : wrap64 ((k : Int) + 1) = (k : Int) + 1 := by rw [wrap64]; omega
  have w2 : wrap64 (n + 1) = n + 1 := by rw [wrap64]; omega
  have w3 : wrap64 (n + 2) = n + 2 := by rw [wrap64]; omega
  have HM : Hid (0 ≤ n ∧ n ≤ 100 ∧ 0 ≤ v ∧ v ≤ 100) := ⟨hn0, hn1, hv0, hv1⟩
  clear hn0 hn1 hv0 hv1 hkN
  go_enter Tryz.func36, Tryz.ntmps36
  go_wp2_with fail
  have hD : Below W.heap.size W W.drew := (Below.refl _ _).drew
  have HCl : Hid (∀ X, Below W.heap.size W X → (fun w' : World => w'.cell? ⟨Fb, 0, none⟩ = some (.slice (some ⟨bc, oc, none⟩) N cc) ∧ w'.cell? ⟨Fb, 1, none⟩ = some (.slice (some ⟨gs, 0, none⟩) N N) ∧ w'.cell? ⟨bc, oc + k * 4, none⟩ = some (.int .i64 21) ∧ w'.cell? ⟨bc, oc + k * 4 + 1, none⟩ = some (.int .i64 a) ∧ w'.cell? ⟨bc, oc + k * 4 + 2, none⟩ = some (.int .i64 b) ∧ w'.cell? ⟨bc, oc + k * 4 + 3, none⟩ = some (.int .i64 c) ∧ w'.cell? ⟨gs, k * 3, none⟩ = some (.int .i64 n) ∧ w'.cell? ⟨gs, k * 3 + 1, none⟩ = some (.int .i64 v) ∧ w'.cell? ⟨gs, k * 3 + 2, none⟩ = some (.int .i64 p)) X) := fun X hX => ⟨(hX.cell (block_in0 f0)).trans f0, (hX.cell (block_in0 f1)).trans f1, (hX.cell (block_in0 f2)).trans f2, (hX.cell (block_in0 f3)).trans f3, (hX.cell (block_in0 f4)).trans f4, (hX.cell (block_in0 f5)).trans f5, (hX.cell (block_in0 f6)).trans f6, (hX.cell (block_in0 f7)).trans f7, (hX.cell (block_in0 f8)).trans f8⟩
  have hS := HCl.out W.drew hD
  refine pick_begin (S := (fun w' : World => w'.cell? ⟨Fb, 0, none⟩ = some (.slice (some ⟨bc, oc, none⟩) N cc) ∧ w'.cell? ⟨Fb, 1, none⟩ = some (.slice (some ⟨gs, 0, none⟩) N N) ∧ w'.cell? ⟨bc, oc + k * 4, none⟩ = some (.int .i64 21) ∧ w'.cell? ⟨bc, oc + k * 4 + 1, none⟩ = some (.int .i64 a) ∧ w'.cell? ⟨bc, oc + k * 4 + 2, none⟩ = some (.int .i64 b) ∧ w'.cell? ⟨bc, oc + k * 4 + 3, none⟩ = some (.int .i64 c) ∧ w'.cell? ⟨gs, k * 3, none⟩ = some (.int .i64 n) ∧ w'.cell? ⟨gs, k * 3 + 1, none⟩ = some (.int .i64 v) ∧ w'.cell? ⟨gs, k * 3 + 2, none⟩ = some (.int .i64 p))) (by kernel_rfl) rfl rfl ?_
  refine pick_op (i := 0) (v := .pointer (some ⟨Fb, 0, none⟩)) (by kernel_rfl) rfl (by kernel_rfl) (by kernel_rfl) rfl rfl (fun w' _ => by simp [go_sem]) hS (by simp [go_sem]; exact rfl) ?_
  refine pick_op (i := 1) (v := .pointer (some ⟨Fb, 0, none⟩)) (by kernel_rfl) rfl (by kernel_rfl) (by kernel_rfl) rfl rfl (fun w' _ => by simp [go_sem]) hS (by simp [go_sem]; exact rfl) ?_
  refine pick_op (i := 2) (v := .pointer (some ⟨Fb, 0, none⟩)) (by kernel_rfl) rfl (by kernel_rfl) (by kernel_rfl) rfl rfl (fun w' _ => by simp [go_sem]) hS (by simp [go_sem]; exact rfl) ?_
  refine pick_op (i := 3) (v := .slice (some ⟨bc, oc, none⟩) N cc) (by kernel_rfl) rfl (by kernel_rfl) (by kernel_rfl) rfl rfl (fun w' h => by simp [go_sem, h.1]) hS (by simp [go_sem]; exact rfl) ?_
  refine pick_op (i := 4) (v := .int .i64 (k : Int)) (by kernel_rfl) rfl (by kernel_rfl) (by kernel_rfl) rfl rfl (fun w' _ => by simp [go_sem]) hS (by simp [go_sem]; exact rfl) ?_
  refine pick_op (i := 5) (v := .pointer (some ⟨bc, oc + k * 4, none⟩)) (by kernel_rfl) rfl (by kernel_rfl) (by kernel_rfl) rfl rfl (fun w' _ => by simp [go_sem, hk0, hk1]) hS (by simp [go_sem]; exact rfl) ?_
  refine pick_op (i := 6) (v := .agg #[.int .i64 21, .int .i64 a, .int .i64 b, .int .i64 c]) (by kernel_rfl) rfl (by kernel_rfl) (by kernel_rfl) rfl rfl (fun w' h => by simp [go_sem, h.2.2.1, h.2.2.2.1, h.2.2.2.2.1, h.2.2.2.2.2.1]) hS (by simp [go_sem]; exact rfl) ?_
  refine pick_op (i := 7) (v := .pointer (some ⟨Fb, 0, none⟩)) (by kernel_rfl) rfl (by kernel_rfl) (by kernel_rfl) rfl rfl (fun w' _ => by simp [go_sem]) hS (by simp [go_sem]; exact rfl) ?_
  refine pick_op (i := 8) (v := .pointer (some ⟨Fb, 0, none⟩)) (by kernel_rfl) rfl (by kernel_rfl) (by kernel_rfl) rfl rfl (fun w' _ => by simp [go_sem]) hS (by simp [go_sem]; exact rfl) ?_
  refine pick_op (i := 9) (v := .pointer (some ⟨Fb, 1, none⟩)) (by kernel_rfl) rfl (by kernel_rfl) (by kernel_rfl) rfl rfl (fun w' _ => by simp [go_sem]) hS (by simp [go_sem]; exact rfl) ?_
  refine pick_op (i := 10) (v := .slice (some ⟨gs, 0, none⟩) N N) (by kernel_rfl) rfl (by kernel_rfl) (by kernel_rfl) rfl rfl (fun w' h => by simp [go_sem, h.2.1]) hS (by simp [go_sem]; exact rfl) ?_
  refine pick_op (i := 11) (v := .int .i64 (k : Int)) (by kernel_rfl) rfl (by kernel_rfl) (by kernel_rfl) rfl rfl (fun w' _ => by simp [go_sem]) hS (by simp [go_sem]; exact rfl) ?_
  refine pick_op (i := 12) (v := .pointer (some ⟨gs, k * 3, none⟩)) (by kernel_rfl) rfl (by kernel_rfl) (by kernel_rfl) rfl rfl (fun w' _ => by simp [go_sem, hk0, hk1]) hS (by simp [go_sem]; exact rfl) ?_
  refine pick_op (i := 13) (v := .agg #[.int .i64 n, .int .i64 v, .int .i64 p]) (by kernel_rfl) rfl (by kernel_rfl) (by kernel_rfl) rfl rfl (fun w' h => by simp [go_sem, h.2.2.2.2.2.2.1, h.2.2.2.2.2.2.2.1, h.2.2.2.2.2.2.2.2]) hS (by simp [go_sem]; exact rfl) ?_
  refine pick_op (i := 14) (v := .int .i64 (k : Int)) (by kernel_rfl) rfl (by kernel_rfl) (by kernel_rfl) rfl rfl (fun w' _ => by simp [go_sem]) hS (by simp [go_sem]; exact rfl) ?_
  refine pick_op (i := 15) (v := .int .i64 ((k : Int) + 1)) (by kernel_rfl) rfl (by kernel_rfl) (by kernel_rfl) rfl rfl (fun w' _ => by simp [go_sem]; exact (IntWalk.i64_left _).trans w1) hS (by simp [go_sem]; exact rfl) ?_
  refine pick_fork (i := 16) (j := 17) (by kernel_rfl) ?_ ?_
  · have hB1 : Below W.heap.size W (W.drew.alloc (.cells #[.int .i64 0, .int .i64 0, .int .i64 0, .int .i64 0] 31)) := hD.alloc hD.size _
    have hB2 : Below W.heap.size W ((W.drew.alloc (.cells #[.int .i64 0, .int .i64 0, .int .i64 0, .int .i64 0] 31)).alloc (.cells #[.int .i64 0, .int .i64 0, .int .i64 0] 43)) := hB1.alloc hB1.size _
    refine ⟨_, .pointer (some ⟨W.heap.size, 0, none⟩), (W.drew.alloc (.cells #[.int .i64 0, .int .i64 0, .int .i64 0, .int .i64 0] 31)), rfl, rfl, by simp [go_sem], HCl.out _ hB1, ?_⟩
    refine pick_frame (by simp [go_sem]; exact rfl) ?_
    refine pick_make (i := 17) (v := .pointer (some ⟨W.heap.size + 1, 0, none⟩)) (w1 := ((W.drew.alloc (.cells #[.int .i64 0, .int .i64 0, .int .i64 0, .int .i64 0] 31)).alloc (.cells #[.int .i64 0, .int .i64 0, .int .i64 0] 43))) rfl (by kernel_rfl) rfl rfl (by simp [go_sem]) (HCl.out _ hB2) (by simp [go_sem]; exact rfl) ?_
    have g5 : ((W.drew.alloc (.cells #[.int .i64 0, .int .i64 0, .int .i64 0, .int .i64 0] 31)).alloc (.cells #[.int .i64 0, .int .i64 0, .int .i64 0] 43)).heap[W.heap.size]? = some (.cells #[.int .i64 0, .int .i64 0, .int .i64 0, .int .i64 0] 31) := (two_new W.drew _ _).1
    have g6 : ((W.drew.alloc (.cells #[.int .i64 0, .int .i64 0, .int .i64 0, .int .i64 0] 31)).alloc (.cells #[.int .i64 0, .int .i64 0, .int .i64 0] 43)).heap[W.heap.size + 1]? = some (.cells #[.int .i64 0, .int .i64 0, .int .i64 0] 43) := (two_new W.drew _ _).2
    have HBx := hid (boxed hB2 g5 g6 (by omega) (by omega) 21 a b c n v p)
    have HB4 : Hid (Below W.heap.size W (put4 ((W.drew.alloc (.cells #[.int .i64 0, .int .i64 0, .int .i64 0, .int .i64 0] 31)).alloc (.cells #[.int .i64 0, .int .i64 0, .int .i64 0] 43)) (W.heap.size) (.int .i64 21) (.int .i64 a) (.int .i64 b) (.int .i64 c))) := by
      obtain ⟨p1, p2, p3, p4, p5, p6⟩ := put4_is g5 (.int .i64 21) (.int .i64 a) (.int .i64 b) (.int .i64 c)
      exact ⟨p4.trans hB2.os, p5.trans hB2.tape, p6.trans hB2.output, by rw [p3]; exact hB2.size, fun q hq => (p2 q (by omega)).trans (hB2.block q hq)⟩
    refine pick_skip (i := 18) rfl (w1 := put4 ((W.drew.alloc (.cells #[.int .i64 0, .int .i64 0, .int .i64 0, .int .i64 0] 31)).alloc (.cells #[.int .i64 0, .int .i64 0, .int .i64 0] 43)) (W.heap.size) (.int .i64 21) (.int .i64 a) (.int .i64 b) (.int .i64 c)) rfl (by kernel_rfl) rfl rfl (by simp [go_sem, put4]) (HCl.out _ HB4.out) ?_
    refine pick_skip (i := 19) rfl (w1 := put3 (put4 ((W.drew.alloc (.cells #[.int .i64 0, .int .i64 0, .int .i64 0, .int .i64 0] 31)).alloc (.cells #[.int .i64 0, .int .i64 0, .int .i64 0] 43)) (W.heap.size) (.int .i64 21) (.int .i64 a) (.int .i64 b) (.int .i64 c)) (W.heap.size + 1) (.int .i64 n) (.int .i64 v) (.int .i64 p)) rfl (by kernel_rfl) rfl rfl (by simp [go_sem, put4, put3]) (HCl.out _ HBx.out.bel) ?_
    refine pick_make (i := 20) (v := .int .i64 ((k : Int) + 1)) (w1 := put3 (put4 ((W.drew.alloc (.cells #[.int .i64 0, .int .i64 0, .int .i64 0, .int .i64 0] 31)).alloc (.cells #[.int .i64 0, .int .i64 0, .int .i64 0] 43)) (W.heap.size) (.int .i64 21) (.int .i64 a) (.int .i64 b) (.int .i64 c)) (W.heap.size + 1) (.int .i64 n) (.int .i64 v) (.int .i64 p)) rfl (by kernel_rfl) rfl rfl (by simp [go_sem]) (HCl.out _ HBx.out.bel) (by simp [go_sem]; exact rfl) ?_
    refine pick_end (by kernel_rfl) ?_
    obtain ⟨X, hX⟩ : ∃ X, put3 (put4 ((W.drew.alloc (.cells #[.int .i64 0, .int .i64 0, .int .i64 0, .int .i64 0] 31)).alloc (.cells #[.int .i64 0, .int .i64 0, .int .i64 0] 43)) (W.heap.size) (.int .i64 21) (.int .i64 a) (.int .i64 b) (.int .i64 c)) (W.heap.size + 1) (.int .i64 n) (.int .i64 v) (.int .i64 p) = X := ⟨_, rfl⟩
    rw [hX] at HBx ⊢
    obtain ⟨b5, hb5⟩ : ∃ x, W.heap.size = x := ⟨_, rfl⟩
    obtain ⟨b6, hb6⟩ : ∃ x, W.heap.size + 1 = x := ⟨_, rfl⟩
    rw [hb6] at HBx ⊢
    rw [hb5] at HBx ⊢
    clear hX hb5 hb6 g5 g6 hB1 hB2 HB4 hS HCl hD
    clear f0 f1 f2 f3 f4 f5 f6 f7 f8
    have i0 := cell_of_heap HBx.out.i 0
    have i1 := cell_of_heap HBx.out.i 1
    have i3 := cell_of_heap HBx.out.i 3
    have s0 := cell_of_heap HBx.out.s 0
    have s1 := cell_of_heap HBx.out.s 1
    have s2 := cell_of_heap HBx.out.s 2
    simp at i0 i1 i3 s0 s1 s2
    go_wp2_with fail
    refine (HH.out X HBx.out.bel).mono ?_
    rintro e X2 hh
    have HHe := hid hh
    clear hh
    obtain ⟨hb2, ad, cp, rfl, hor⟩ := HHe.out
    clear hor hb2
    go_wp2_with fail
    go_ret
    exact ⟨HBx.out.bel.trans (HHe.out.1.mono HBx.out.bel.size), HHe.out.2⟩
  · have hB1 : Below W.heap.size W (W.drew.alloc (.cells #[.int .i64 0, .int .i64 0, .int .i64 0] 43)) := hD.alloc hD.size _
    have hB2 : Below W.heap.size W ((W.drew.alloc (.cells #[.int .i64 0, .int .i64 0, .int .i64 0] 43)).alloc (.cells #[.int .i64 0, .int .i64 0, .int .i64 0, .int .i64 0] 31)) := hB1.alloc hB1.size _
    refine ⟨_, .pointer (some ⟨W.heap.size, 0, none⟩), (W.drew.alloc (.cells #[.int .i64 0, .int .i64 0, .int .i64 0] 43)), rfl, rfl, by simp [go_sem], HCl.out _ hB1, ?_⟩
    refine pick_frame (by simp [go_sem]; exact rfl) ?_
    refine pick_make (i := 16) (v := .pointer (some ⟨W.heap.size + 1, 0, none⟩)) (w1 := ((W.drew.alloc (.cells #[.int .i64 0, .int .i64 0, .int .i64 0] 43)).alloc (.cells #[.int .i64 0, .int .i64 0, .int .i64 0, .int .i64 0] 31))) rfl (by kernel_rfl) rfl rfl (by simp [go_sem]) (HCl.out _ hB2) (by simp [go_sem]; exact rfl) ?_
    have g5 : ((W.drew.alloc (.cells #[.int .i64 0, .int .i64 0, .int .i64 0] 43)).alloc (.cells #[.int .i64 0, .int .i64 0, .int .i64 0, .int .i64 0] 31)).heap[W.heap.size + 1]? = some (.cells #[.int .i64 0, .int .i64 0, .int .i64 0, .int .i64 0] 31) := (two_new W.drew _ _).2
    have g6 : ((W.drew.alloc (.cells #[.int .i64 0, .int .i64 0, .int .i64 0] 43)).alloc (.cells #[.int .i64 0, .int .i64 0, .int .i64 0, .int .i64 0] 31)).heap[W.heap.size]? = some (.cells #[.int .i64 0, .int .i64 0, .int .i64 0] 43) := (two_new W.drew _ _).1
    have HBx := hid (boxed hB2 g5 g6 (by omega) (by omega) 21 a b c n v p)
    have HB4 : Hid (Below W.heap.size W (put4 ((W.drew.alloc (.cells #[.int .i64 0, .int .i64 0, .int .i64 0] 43)).alloc (.cells #[.int .i64 0, .int .i64 0, .int .i64 0, .int .i64 0] 31)) (W.heap.size + 1) (.int .i64 21) (.int .i64 a) (.int .i64 b) (.int .i64 c))) := by
      obtain ⟨p1, p2, p3, p4, p5, p6⟩ := put4_is g5 (.int .i64 21) (.int .i64 a) (.int .i64 b) (.int .i64 c)
      exact ⟨p4.trans hB2.os, p5.trans hB2.tape, p6.trans hB2.output, by rw [p3]; exact hB2.size, fun q hq => (p2 q (by omega)).trans (hB2.block q hq)⟩
    refine pick_skip (i := 18) rfl (w1 := put4 ((W.drew.alloc (.cells #[.int .i64 0, .int .i64 0, .int .i64 0] 43)).alloc (.cells #[.int .i64 0, .int .i64 0, .int .i64 0, .int .i64 0] 31)) (W.heap.size + 1) (.int .i64 21) (.int .i64 a) (.int .i64 b) (.int .i64 c)) rfl (by kernel_rfl) rfl rfl (by simp [go_sem, put4]) (HCl.out _ HB4.out) ?_
    refine pick_skip (i := 19) rfl (w1 := put3 (put4 ((W.drew.alloc (.cells #[.int .i64 0, .int .i64 0, .int .i64 0] 43)).alloc (.cells #[.int .i64 0, .int .i64 0, .int .i64 0, .int .i64 0] 31)) (W.heap.size + 1) (.int .i64 21) (.int .i64 a) (.int .i64 b) (.int .i64 c)) (W.heap.size) (.int .i64 n) (.int .i64 v) (.int .i64 p)) rfl (by kernel_rfl) rfl rfl (by simp [go_sem, put4, put3]) (HCl.out _ HBx.out.bel) ?_
    refine pick_make (i := 20) (v := .int .i64 ((k : Int) + 1)) (w1 := put3 (put4 ((W.drew.alloc (.cells #[.int .i64 0, .int .i64 0, .int .i64 0] 43)).alloc (.cells #[.int .i64 0, .int .i64 0, .int .i64 0, .int .i64 0] 31)) (W.heap.size + 1) (.int .i64 21) (.int .i64 a) (.int .i64 b) (.int .i64 c)) (W.heap.size) (.int .i64 n) (.int .i64 v) (.int .i64 p)) rfl (by kernel_rfl) rfl rfl (by simp [go_sem]) (HCl.out _ HBx.out.bel) (by simp [go_sem]; exact rfl) ?_
    refine pick_end (by kernel_rfl) ?_
    obtain ⟨X, hX⟩ : ∃ X, put3 (put4 ((W.drew.alloc (.cells #[.int .i64 0, .int .i64 0, .int .i64 0] 43)).alloc (.cells #[.int .i64 0, .int .i64 0, .int .i64 0, .int .i64 0] 31)) (W.heap.size + 1) (.int .i64 21) (.int .i64 a) (.int .i64 b) (.int .i64 c)) (W.heap.size) (.int .i64 n) (.int .i64 v) (.int .i64 p) = X := ⟨_, rfl⟩
    rw [hX] at HBx ⊢
    obtain ⟨b5, hb5⟩ : ∃ x, W.heap.size + 1 = x := ⟨_, rfl⟩
    obtain ⟨b6, hb6⟩ : ∃ x, W.heap.size = x := ⟨_, rfl⟩
    rw [hb5] at HBx ⊢
    rw [hb6] at HBx ⊢
    clear hX hb5 hb6 g5 g6 hB1 hB2 HB4 hS HCl hD
    clear f0 f1 f2 f3 f4 f5 f6 f7 f8
    have i0 := cell_of_heap HBx.out.i 0
    have i1 := cell_of_heap HBx.out.i 1
    have i3 := cell_of_heap HBx.out.i 3
    have s0 := cell_of_heap HBx.out.s 0
    have s1 := cell_of_heap HBx.out.s 1
    have s2 := cell_of_heap HBx.out.s 2
    simp at i0 i1 i3 s0 s1 s2
    go_wp2_with fail
    refine (HH.out X HBx.out.bel).mono ?_
    rintro e X2 hh
    have HHe := hid hh
    clear hh
    obtain ⟨hb2, ad, cp, rfl, hor⟩ := HHe.out
    clear hor hb2
    go_wp2_with fail
    go_ret
    exact ⟨HBx.out.bel.trans (HHe.out.1.mono HBx.out.bel.size), HHe.out.2⟩
end Go.Proofs.YtfmkgppkgmjpfaaGreatDoor

/- What a handler comes to, in the program. -/
namespace Go.Proofs.YtfmkgppkgmjpfaaGreatDoor
open Go.RowKit Go.Conc

theorem fl_slice {W : World} {B : Nat} {e : TypeId} {sz : Nat} {v : Value} {n : Nat} {xs : List Value} (h : W.ownsRow B e sz v n xs) : ∃ ad c, v = .slice ad n c := by
  obtain ⟨-, ⟨rfl, rfl⟩ | ⟨g', cap, cur, rfl, -⟩⟩ := h
  · exact ⟨_, _, rfl⟩
  · exact ⟨_, _, rfl⟩

def exC (e : Int × Sq) : List Value := [.int .i64 e.1, .int .i64 e.2.n, .int .i64 e.2.v, .int .i64 e.2.p]

def rowE : List (Int × Sq) → List Value
  | [] => []
  | e :: r => exC e ++ rowE r

theorem rowE_app : ∀ (a b : List (Int × Sq)), rowE (a ++ b) = rowE a ++ rowE b
  | [], _ => rfl
  | e :: r, b => by simp [rowE, rowE_app r b]

theorem rowE_len : ∀ (a : List (Int × Sq)), (rowE a).length = a.length * 4
  | [] => rfl
  | e :: r => by simp [rowE, exC, rowE_len r]; omega

theorem rowE_get : ∀ (es : List (Int × Sq)) (j : Nat), j < es.length → (rowE es)[j * 4]? = some (.int .i64 (es.getD j (0, ⟨0, 0, 0⟩)).1) ∧ (rowE es)[j * 4 + 1]? = some (.int .i64 (es.getD j (0, ⟨0, 0, 0⟩)).2.n) ∧ (rowE es)[j * 4 + 2]? = some (.int .i64 (es.getD j (0, ⟨0, 0, 0⟩)).2.v) ∧ (rowE es)[j * 4 + 3]? = some (.int .i64 (es.getD j (0, ⟨0, 0, 0⟩)).2.p)
  | [], j, h => absurd h (by simp)
  | e :: r, 0, _ => ⟨rfl, rfl, rfl, rfl⟩
  | e :: r, j + 1, h => by
    have ih := rowE_get r j (by simpa using h)
    have e0 : (j + 1) * 4 = j * 4 + 4 := by omega
    rw [e0]
    have sh : ∀ c, (rowE (e :: r))[j * 4 + 4 + c]? = (rowE r)[j * 4 + c]? := fun c => by
      show (exC e ++ rowE r)[j * 4 + 4 + c]? = _
      rw [List.getElem?_append_right (by simp [exC]; omega)]
      congr 1
      simp [exC]
      omega
    have s0 := sh 0
    simp only [Nat.add_zero] at s0
    rw [s0, sh 1, sh 2, sh 3]
    exact ih

theorem exits_owns {W X : World} {v : Value} {es : List (Int × Sq)} (hb : Below W.heap.size W X) (hr : X.ownsRow W.heap.size 67 4 v es.length (rowE es)) : ExitsP es W (.returned v) X := by
  refine ⟨hb, ?_⟩
  obtain ⟨h1, ⟨rfl, h0⟩ | ⟨g, cap, cur, rfl, -, hg, -, -, -, ht⟩⟩ := hr
  · exact ⟨none, 0, by rw [h0], Or.inl (List.eq_nil_of_length_eq_zero h0)⟩
  · refine ⟨_, cap, rfl, Or.inr ⟨g, rfl, cur, hg, fun j hj => ?_⟩⟩
    have hc : ∀ i, i < es.length * 4 → cur[i]? = (rowE es)[i]? := fun i hi => by
      rw [← ht, List.getElem?_take_of_lt hi, Array.getElem?_toList]
    rw [hc _ (by omega), hc _ (by omega), hc _ (by omega), hc _ (by omega)]
    exact rowE_get es j hj

theorem grown_cells {X5 X6 : World} {B n : Nat} {va : Value} {xs : List Value} (hr : X5.ownsRow B 67 4 va n xs) (hg : X5.grownBy X6 va.ownBlock) {q : Nat} {cs : Array Value} {t : TypeId} (hq : X5.heap[q]? = some (.cells cs t)) (ht : t ≠ 67) : X6.heap[q]? = some (.cells cs t) :=
  (hg.block q (heap_lt hq) (fun e => by
    obtain ⟨-, ⟨rfl, -⟩ | ⟨g, cap, cur, rfl, -, hc, -⟩⟩ := hr
    · cases e
    · cases e
      rw [hq] at hc
      cases hc
      exact ht rfl)).trans hq

theorem info_exit : (Tryz.prog.info? 67).map (fun i => (i.zero, i.size, i.bytes)) = some (some (.agg #[.int .i64 0, .int .i64 0, .int .i64 0, .int .i64 0]), 4, 32) := by kernel_rfl

theorem lit_cells (w : World) (l : List Value) (t : TypeId) : ∀ j u, l[j]? = some u → (w.alloc (.cells l.toArray t)).cell? ((⟨w.heap.size, 0, none⟩ : Addr).add j) = some u := fun j u hu => by
  have e : ((⟨w.heap.size, 0, none⟩ : Addr).add j) = ⟨w.heap.size, j, none⟩ := by
    unfold Addr.add
    split
    · rename_i h
      subst h
      rfl
    · simp
  rw [e, cell_of_heap (MapKept.heap_alloc w (.cells l.toArray t)).1 j]
  simpa using hu

/-- The row of exits while it is made. -/
structure Rw4 (W X : World) (b5 b6 : Nat) (op a b c n v p : Int) (es : List (Int × Sq)) (ve : Value) : Prop where
  bx : Boxed W X b5 b6 op a b c n v p
  row : X.ownsRow W.heap.size 67 4 ve es.length (rowE es)

theorem Rw4.below {W X X' : World} {b5 b6 : Nat} {op a b c n v p : Int} {es : List (Int × Sq)} {ve : Value} (h : Rw4 W X b5 b6 op a b c n v p es ve) (hb : Below X.heap.size X X') : Rw4 W X' b5 b6 op a b c n v p es ve :=
  ⟨⟨h.bx.bel.trans (hb.mono h.bx.bel.size), (hb.block _ (heap_lt h.bx.i)).trans h.bx.i, (hb.block _ (heap_lt h.bx.s)).trans h.bx.s⟩, kept_owns h.row hb⟩

/-- Exits more. -/
theorem Rw4.more {W X X1 X2 : World} {b5 b6 : Nat} {op a b c n v p : Int} {es es' : List (Int × Sq)} {ve ve' : Value} (h : Rw4 W X b5 b6 op a b c n v p es ve) (hb : Below X.heap.size X X1) (ho : X2.ownsRow W.heap.size 67 4 ve' (es.length + es'.length) (rowE es ++ rowE es')) (hg : X1.grownBy X2 ve.ownBlock) : Rw4 W X2 b5 b6 op a b c n v p (es ++ es') ve' := by
  have h1 := h.below hb
  have ne : ∀ {q : Nat} {cs : Array Value} {t : TypeId}, X1.heap[q]? = some (.cells cs t) → t ≠ 67 → X2.heap[q]? = some (.cells cs t) := fun {q cs t} hq ht => (hg.block q (heap_lt hq) (fun e => by
    obtain ⟨-, ⟨rfl, -⟩ | ⟨g, cap, cur, rfl, -, hc, -⟩⟩ := h1.row
    · cases e
    · cases e
      rw [hq] at hc
      cases hc
      exact ht rfl)).trans hq
  have bl : Below W.heap.size W X2 := ⟨hg.os.trans h1.bx.bel.os, hg.tape.trans h1.bx.bel.tape, hg.output.trans h1.bx.bel.output, Nat.le_trans h1.bx.bel.size hg.size, fun q hq => (hg.block q (Nat.lt_of_lt_of_le hq h1.bx.bel.size) (fun e => by
    obtain ⟨-, ⟨rfl, -⟩ | ⟨g, cap, cur, rfl, hB, -⟩⟩ := h1.row
    · cases e
    · cases e
      have hq' : g < W.heap.size := hq
      omega)).trans (h1.bx.bel.block q hq)⟩
  refine ⟨⟨bl, ne h1.bx.i (by decide), ne h1.bx.s (by decide)⟩, ?_⟩
  rw [List.length_append, rowE_app]
  exact ho

set_option maxRecDepth 100000 in
set_option maxHeartbeats 16000000 in
theorem handleI_calls {W : World} {Fb bc oc cc gs N k : Nat} {is : List In} {a b c n v p : Int} (hk0 : (0 : Int) ≤ (k : Int)) (hk1 : (k : Int) < (N : Int)) (hkN : k ≤ 1500) (hn0 : 0 ≤ n) (hn1 : n ≤ 100) (hv0 : 0 ≤ v) (hv1 : v ≤ 100) (f0 : W.cell? ⟨Fb, 0, none⟩ = some (.slice (some ⟨bc, oc, none⟩) N cc)) (f1 : W.cell? ⟨Fb, 1, none⟩ = some (.slice (some ⟨gs, 0, none⟩) N N)) (f2 : W.cell? ⟨bc, oc + k * 4, none⟩ = some (.int .i64 21)) (f3 : W.cell? ⟨bc, oc + k * 4 + 1, none⟩ = some (.int .i64 a)) (f4 : W.cell? ⟨bc, oc + k * 4 + 2, none⟩ = some (.int .i64 b)) (f5 : W.cell? ⟨bc, oc + k * 4 + 3, none⟩ = some (.int .i64 c)) (f6 : W.cell? ⟨gs, k * 3, none⟩ = some (.int .i64 n)) (f7 : W.cell? ⟨gs, k * 3 + 1, none⟩ = some (.int .i64 v)) (f8 : W.cell? ⟨gs, k * 3 + 2, none⟩ = some (.int .i64 p)) (hNi : N = is.length) (hin : InsAt W bc oc is) (hcc : N ≤ cc) (hN15 : N ≤ 1500) (hall : ∀ i ∈ is, i.ok = true) (hT : tableZ is a = true) (ha : 0 ≤ a) :
    Calls Tryz.prog 68 #[.pointer (some ⟨Fb, 0, none⟩), .int .i64 (k : Int)] W (ExitsP (handleZ is k ⟨21, a, b, c⟩ ⟨n, v, p⟩) W) := by
  subst hNi
  obtain ⟨t1, t2, t3, t4, t5⟩ := table_parts hT
  obtain ⟨ka, hka⟩ : ∃ ka : Nat, a = (ka : Int) := ⟨a.toNat, by omega⟩
  have hkl : ka < is.length := by omega
  have hti := all_ok hall hkl
  have hT1 := hin ka hkl 1 (by omega)
  have hT2 := hin ka hkl 2 (by omega)
  have e1 : is.getD a.toNat default = is.getD ka default := by rw [hka, Int.toNat_natCast]
  rw [e1] at t2 t3 t4
  obtain ⟨⟨top, ta, tb, tc⟩, hie⟩ : ∃ i, is.getD ka default = i := ⟨_, rfl⟩
  rw [hie] at hT1 hT2 hti t2 t3 t4
  simp only [In.cell] at hT1 hT2
  dsimp only at t2 t3 t4
  subst t2
  have hnum := ok_nums hti (by dsimp only; decide) (by dsimp only; decide) (by dsimp only; decide)
  dsimp only at hnum
  obtain ⟨B, hB⟩ : ∃ B : Nat, tb = (B : Int) := ⟨tb.toNat, by omega⟩
  subst hB
  have HBk : Hid (ka + B < is.length ∧ B ≤ 4 ∧ is.length ≤ cc ∧ is.length ≤ 1500 ∧ a = (ka : Int) ∧ is.getD ka default = ⟨24, ta, (B : Int), tc⟩ ∧ bc < W.heap.size ∧ InsAt W bc oc is) := ⟨by omega, by omega, hcc, hN15, hka, hie, block_in0 f2, hin⟩
  have HZ : Hid (handleZ is k ⟨21, a, b, c⟩ ⟨n, v, p⟩ = ((ta, (⟨n + 1, 0, 2⟩ : Sq)) :: (clausesZ is (ka : Int)).map (fun c => (c.b, (⟨n + 2, 0, 2⟩ : Sq)))) ++ [((k : Int) + 1, (⟨n, 0, 3⟩ : Sq)), (c, ⟨n + 0, v + 1, p⟩)]) := by
    show _ = _
    unfold handleZ
    dsimp only
    rw [e1, hie, hka]
    rfl
  have F0 := hid f0
  have FT := hid hT1
  have FT2 := hid hT2
  have ha0 : (0 : Int) ≤ a := ha
  have ha1 : a < (is.length : Int) := t1
  have hat : a.toNat = ka := by rw [hka, Int.toNat_natCast]
  obtain ⟨N, hNe⟩ : ∃ N, is.length = N := ⟨_, rfl⟩
  have HNe := hid hNe
  rw [hNe] at f0 f1 hk1 ha1 F0
  clear t1 t3 t4 t5 hkl hti hT1 hT2 e1 hie hnum hin hcc hN15 hall hT ha hka hNe
  have w1 : wrap64 ((k : Int) + 1) = (k : Int) + 1 := by rw [wrap64]; omega
  have w2 : wrap64 (n + 1) = n + 1 := by rw [wrap64]; omega
  have w3 : wrap64 (n + 2) = n + 2 := by rw [wrap64]; omega
  have HM : Hid (0 ≤ n ∧ n ≤ 100 ∧ 0 ≤ v ∧ v ≤ 100) := ⟨hn0, hn1, hv0, hv1⟩
  clear hn0 hn1 hv0 hv1 hkN
  go_enter Tryz.func68, Tryz.ntmps68
  go_wp2_with fail
  have hD : Below W.heap.size W W.drew := (Below.refl _ _).drew
  have HCl : Hid (∀ X, Below W.heap.size W X → (fun w' : World => w'.cell? ⟨Fb, 0, none⟩ = some (.slice (some ⟨bc, oc, none⟩) N cc) ∧ w'.cell? ⟨Fb, 1, none⟩ = some (.slice (some ⟨gs, 0, none⟩) N N) ∧ w'.cell? ⟨bc, oc + k * 4, none⟩ = some (.int .i64 21) ∧ w'.cell? ⟨bc, oc + k * 4 + 1, none⟩ = some (.int .i64 a) ∧ w'.cell? ⟨bc, oc + k * 4 + 2, none⟩ = some (.int .i64 b) ∧ w'.cell? ⟨bc, oc + k * 4 + 3, none⟩ = some (.int .i64 c) ∧ w'.cell? ⟨gs, k * 3, none⟩ = some (.int .i64 n) ∧ w'.cell? ⟨gs, k * 3 + 1, none⟩ = some (.int .i64 v) ∧ w'.cell? ⟨gs, k * 3 + 2, none⟩ = some (.int .i64 p)) X) := fun X hX => ⟨(hX.cell (block_in0 f0)).trans f0, (hX.cell (block_in0 f1)).trans f1, (hX.cell (block_in0 f2)).trans f2, (hX.cell (block_in0 f3)).trans f3, (hX.cell (block_in0 f4)).trans f4, (hX.cell (block_in0 f5)).trans f5, (hX.cell (block_in0 f6)).trans f6, (hX.cell (block_in0 f7)).trans f7, (hX.cell (block_in0 f8)).trans f8⟩
  have hS := HCl.out W.drew hD
  refine pick_begin (S := (fun w' : World => w'.cell? ⟨Fb, 0, none⟩ = some (.slice (some ⟨bc, oc, none⟩) N cc) ∧ w'.cell? ⟨Fb, 1, none⟩ = some (.slice (some ⟨gs, 0, none⟩) N N) ∧ w'.cell? ⟨bc, oc + k * 4, none⟩ = some (.int .i64 21) ∧ w'.cell? ⟨bc, oc + k * 4 + 1, none⟩ = some (.int .i64 a) ∧ w'.cell? ⟨bc, oc + k * 4 + 2, none⟩ = some (.int .i64 b) ∧ w'.cell? ⟨bc, oc + k * 4 + 3, none⟩ = some (.int .i64 c) ∧ w'.cell? ⟨gs, k * 3, none⟩ = some (.int .i64 n) ∧ w'.cell? ⟨gs, k * 3 + 1, none⟩ = some (.int .i64 v) ∧ w'.cell? ⟨gs, k * 3 + 2, none⟩ = some (.int .i64 p))) (by kernel_rfl) rfl rfl ?_
  refine pick_op (i := 0) (v := .pointer (some ⟨Fb, 0, none⟩)) (by kernel_rfl) rfl (by kernel_rfl) (by kernel_rfl) rfl rfl (fun w' _ => by simp [go_sem]) hS (by simp [go_sem]; exact rfl) ?_
  refine pick_op (i := 1) (v := .pointer (some ⟨Fb, 0, none⟩)) (by kernel_rfl) rfl (by kernel_rfl) (by kernel_rfl) rfl rfl (fun w' _ => by simp [go_sem]) hS (by simp [go_sem]; exact rfl) ?_
  refine pick_op (i := 2) (v := .pointer (some ⟨Fb, 0, none⟩)) (by kernel_rfl) rfl (by kernel_rfl) (by kernel_rfl) rfl rfl (fun w' _ => by simp [go_sem]) hS (by simp [go_sem]; exact rfl) ?_
  refine pick_op (i := 3) (v := .slice (some ⟨bc, oc, none⟩) N cc) (by kernel_rfl) rfl (by kernel_rfl) (by kernel_rfl) rfl rfl (fun w' h => by simp [go_sem, h.1]) hS (by simp [go_sem]; exact rfl) ?_
  refine pick_op (i := 4) (v := .int .i64 (k : Int)) (by kernel_rfl) rfl (by kernel_rfl) (by kernel_rfl) rfl rfl (fun w' _ => by simp [go_sem]) hS (by simp [go_sem]; exact rfl) ?_
  refine pick_op (i := 5) (v := .pointer (some ⟨bc, oc + k * 4, none⟩)) (by kernel_rfl) rfl (by kernel_rfl) (by kernel_rfl) rfl rfl (fun w' _ => by simp [go_sem, hk0, hk1]) hS (by simp [go_sem]; exact rfl) ?_
  refine pick_op (i := 6) (v := .agg #[.int .i64 21, .int .i64 a, .int .i64 b, .int .i64 c]) (by kernel_rfl) rfl (by kernel_rfl) (by kernel_rfl) rfl rfl (fun w' h => by simp [go_sem, h.2.2.1, h.2.2.2.1, h.2.2.2.2.1, h.2.2.2.2.2.1]) hS (by simp [go_sem]; exact rfl) ?_
  refine pick_op (i := 7) (v := .pointer (some ⟨Fb, 0, none⟩)) (by kernel_rfl) rfl (by kernel_rfl) (by kernel_rfl) rfl rfl (fun w' _ => by simp [go_sem]) hS (by simp [go_sem]; exact rfl) ?_
  refine pick_op (i := 8) (v := .pointer (some ⟨Fb, 0, none⟩)) (by kernel_rfl) rfl (by kernel_rfl) (by kernel_rfl) rfl rfl (fun w' _ => by simp [go_sem]) hS (by simp [go_sem]; exact rfl) ?_
  refine pick_op (i := 9) (v := .pointer (some ⟨Fb, 1, none⟩)) (by kernel_rfl) rfl (by kernel_rfl) (by kernel_rfl) rfl rfl (fun w' _ => by simp [go_sem]) hS (by simp [go_sem]; exact rfl) ?_
  refine pick_op (i := 10) (v := .slice (some ⟨gs, 0, none⟩) N N) (by kernel_rfl) rfl (by kernel_rfl) (by kernel_rfl) rfl rfl (fun w' h => by simp [go_sem, h.2.1]) hS (by simp [go_sem]; exact rfl) ?_
  refine pick_op (i := 11) (v := .int .i64 (k : Int)) (by kernel_rfl) rfl (by kernel_rfl) (by kernel_rfl) rfl rfl (fun w' _ => by simp [go_sem]) hS (by simp [go_sem]; exact rfl) ?_
  refine pick_op (i := 12) (v := .pointer (some ⟨gs, k * 3, none⟩)) (by kernel_rfl) rfl (by kernel_rfl) (by kernel_rfl) rfl rfl (fun w' _ => by simp [go_sem, hk0, hk1]) hS (by simp [go_sem]; exact rfl) ?_
  refine pick_op (i := 13) (v := .agg #[.int .i64 n, .int .i64 v, .int .i64 p]) (by kernel_rfl) rfl (by kernel_rfl) (by kernel_rfl) rfl rfl (fun w' h => by simp [go_sem, h.2.2.2.2.2.2.1, h.2.2.2.2.2.2.2.1, h.2.2.2.2.2.2.2.2]) hS (by simp [go_sem]; exact rfl) ?_
  refine pick_fork (i := 14) (j := 15) (by kernel_rfl) ?_ ?_
  · have hB1 : Below W.heap.size W (W.drew.alloc (.cells #[.int .i64 0, .int .i64 0, .int .i64 0, .int .i64 0] 31)) := hD.alloc hD.size _
    have hB2 : Below W.heap.size W ((W.drew.alloc (.cells #[.int .i64 0, .int .i64 0, .int .i64 0, .int .i64 0] 31)).alloc (.cells #[.int .i64 0, .int .i64 0, .int .i64 0] 43)) := hB1.alloc hB1.size _
    refine ⟨_, .pointer (some ⟨W.heap.size, 0, none⟩), (W.drew.alloc (.cells #[.int .i64 0, .int .i64 0, .int .i64 0, .int .i64 0] 31)), rfl, rfl, by simp [go_sem], HCl.out _ hB1, ?_⟩
    refine pick_frame (by simp [go_sem]; exact rfl) ?_
    refine pick_make (i := 15) (v := .pointer (some ⟨W.heap.size + 1, 0, none⟩)) (w1 := ((W.drew.alloc (.cells #[.int .i64 0, .int .i64 0, .int .i64 0, .int .i64 0] 31)).alloc (.cells #[.int .i64 0, .int .i64 0, .int .i64 0] 43))) rfl (by kernel_rfl) rfl rfl (by simp [go_sem]) (HCl.out _ hB2) (by simp [go_sem]; exact rfl) ?_
    have g5 : ((W.drew.alloc (.cells #[.int .i64 0, .int .i64 0, .int .i64 0, .int .i64 0] 31)).alloc (.cells #[.int .i64 0, .int .i64 0, .int .i64 0] 43)).heap[W.heap.size]? = some (.cells #[.int .i64 0, .int .i64 0, .int .i64 0, .int .i64 0] 31) := (two_new W.drew _ _).1
    have g6 : ((W.drew.alloc (.cells #[.int .i64 0, .int .i64 0, .int .i64 0, .int .i64 0] 31)).alloc (.cells #[.int .i64 0, .int .i64 0, .int .i64 0] 43)).heap[W.heap.size + 1]? = some (.cells #[.int .i64 0, .int .i64 0, .int .i64 0] 43) := (two_new W.drew _ _).2
    have HBx := hid (boxed hB2 g5 g6 (by omega) (by omega) 21 a b c n v p)
    have HB4 : Hid (Below W.heap.size W (put4 ((W.drew.alloc (.cells #[.int .i64 0, .int .i64 0, .int .i64 0, .int .i64 0] 31)).alloc (.cells #[.int .i64 0, .int .i64 0, .int .i64 0] 43)) (W.heap.size) (.int .i64 21) (.int .i64 a) (.int .i64 b) (.int .i64 c))) := by
      obtain ⟨p1, p2, p3, p4, p5, p6⟩ := put4_is g5 (.int .i64 21) (.int .i64 a) (.int .i64 b) (.int .i64 c)
      exact ⟨p4.trans hB2.os, p5.trans hB2.tape, p6.trans hB2.output, by rw [p3]; exact hB2.size, fun q hq => (p2 q (by omega)).trans (hB2.block q hq)⟩
    refine pick_skip (i := 16) rfl (w1 := put4 ((W.drew.alloc (.cells #[.int .i64 0, .int .i64 0, .int .i64 0, .int .i64 0] 31)).alloc (.cells #[.int .i64 0, .int .i64 0, .int .i64 0] 43)) (W.heap.size) (.int .i64 21) (.int .i64 a) (.int .i64 b) (.int .i64 c)) rfl (by kernel_rfl) rfl rfl (by simp [go_sem, put4]) (HCl.out _ HB4.out) ?_
    refine pick_skip (i := 17) rfl (w1 := put3 (put4 ((W.drew.alloc (.cells #[.int .i64 0, .int .i64 0, .int .i64 0, .int .i64 0] 31)).alloc (.cells #[.int .i64 0, .int .i64 0, .int .i64 0] 43)) (W.heap.size) (.int .i64 21) (.int .i64 a) (.int .i64 b) (.int .i64 c)) (W.heap.size + 1) (.int .i64 n) (.int .i64 v) (.int .i64 p)) rfl (by kernel_rfl) rfl rfl (by simp [go_sem, put4, put3]) (HCl.out _ HBx.out.bel) ?_
    refine pick_end (by kernel_rfl) ?_
    obtain ⟨X, hX⟩ : ∃ X, put3 (put4 ((W.drew.alloc (.cells #[.int .i64 0, .int .i64 0, .int .i64 0, .int .i64 0] 31)).alloc (.cells #[.int .i64 0, .int .i64 0, .int .i64 0] 43)) (W.heap.size) (.int .i64 21) (.int .i64 a) (.int .i64 b) (.int .i64 c)) (W.heap.size + 1) (.int .i64 n) (.int .i64 v) (.int .i64 p) = X := ⟨_, rfl⟩
    rw [hX] at HBx ⊢
    obtain ⟨b5, hb5⟩ : ∃ x, W.heap.size = x := ⟨_, rfl⟩
    obtain ⟨b6, hb6⟩ : ∃ x, W.heap.size + 1 = x := ⟨_, rfl⟩
    rw [hb6] at HBx ⊢
    rw [hb5] at HBx ⊢
    clear hX hb5 hb6 g5 g6 hB1 hB2 HB4 hS HCl hD
    clear f0 f1 f2 f3 f4 f5 f6 f7 f8
    have i1 := cell_of_heap HBx.out.i 1
    have s0 := cell_of_heap HBx.out.s 0
    simp at i1 s0
    have g0 := (HBx.out.bel.cell (block_in0 F0.out)).trans F0.out
    have gt := (HBx.out.bel.cell (block_in0 FT.out)).trans FT.out
    go_wp2_with fail
    have HCl : Hid (∀ Z, Below X.heap.size X Z → (fun w' : World => w'.cell? ⟨Fb, 0, none⟩ = some (.slice (some ⟨bc, oc, none⟩) N cc) ∧ w'.cell? ⟨b5, 1, none⟩ = some (.int .i64 a) ∧ w'.cell? ⟨b6, 0, none⟩ = some (.int .i64 n) ∧ w'.cell? ⟨bc, oc + ka * 4 + 1, none⟩ = some (.int .i64 ta)) Z) := fun Z hZ => ⟨(hZ.cell (block_in0 g0)).trans g0, (hZ.cell (block_in0 i1)).trans i1, (hZ.cell (block_in0 s0)).trans s0, (hZ.cell (block_in0 gt)).trans gt⟩
    have HD : Hid (Below X.heap.size X X.drew) := (Below.refl _ _).drew
    have hS := HCl.out _ HD.out
    clear i1 s0 g0 gt
    refine pick_begin (S := (fun w' : World => w'.cell? ⟨Fb, 0, none⟩ = some (.slice (some ⟨bc, oc, none⟩) N cc) ∧ w'.cell? ⟨b5, 1, none⟩ = some (.int .i64 a) ∧ w'.cell? ⟨b6, 0, none⟩ = some (.int .i64 n) ∧ w'.cell? ⟨bc, oc + ka * 4 + 1, none⟩ = some (.int .i64 ta))) (by kernel_rfl) rfl rfl ?_
    refine pick_op (i := 0) (v := .pointer (some ⟨Fb, 0, none⟩)) (by kernel_rfl) rfl (by kernel_rfl) (by kernel_rfl) rfl rfl (fun w' _ => by simp [go_sem]) hS (by simp [go_sem]; exact rfl) ?_
    refine pick_op (i := 1) (v := .pointer (some ⟨Fb, 0, none⟩)) (by kernel_rfl) rfl (by kernel_rfl) (by kernel_rfl) rfl rfl (fun w' _ => by simp [go_sem]) hS (by simp [go_sem]; exact rfl) ?_
    refine pick_op (i := 2) (v := .pointer (some ⟨Fb, 0, none⟩)) (by kernel_rfl) rfl (by kernel_rfl) (by kernel_rfl) rfl rfl (fun w' _ => by simp [go_sem]) hS (by simp [go_sem]; exact rfl) ?_
    refine pick_op (i := 3) (v := .slice (some ⟨bc, oc, none⟩) N cc) (by kernel_rfl) rfl (by kernel_rfl) (by kernel_rfl) rfl rfl (fun w' h => by simp [go_sem, h.1]) hS (by simp [go_sem]; exact rfl) ?_
    refine pick_op (i := 4) (v := .pointer (some ⟨b5, 1, none⟩)) (by kernel_rfl) rfl (by kernel_rfl) (by kernel_rfl) rfl rfl (fun w' _ => by simp [go_sem]) hS (by simp [go_sem]; exact rfl) ?_
    refine pick_op (i := 5) (v := .int .i64 a) (by kernel_rfl) rfl (by kernel_rfl) (by kernel_rfl) rfl rfl (fun w' h => by simp [go_sem, h.2.1]) hS (by simp [go_sem]; exact rfl) ?_
    refine pick_op (i := 6) (v := .pointer (some ⟨bc, oc + ka * 4, none⟩)) (by kernel_rfl) rfl (by kernel_rfl) (by kernel_rfl) rfl rfl (fun w' _ => by simp [go_sem, ha0, ha1, hat]) hS (by simp [go_sem]; exact rfl) ?_
    refine pick_op (i := 7) (v := .pointer (some ⟨bc, oc + ka * 4 + 1, none⟩)) (by kernel_rfl) rfl (by kernel_rfl) (by kernel_rfl) rfl rfl (fun w' _ => by simp [go_sem]) hS (by simp [go_sem]; exact rfl) ?_
    refine pick_op (i := 8) (v := .int .i64 ta) (by kernel_rfl) rfl (by kernel_rfl) (by kernel_rfl) rfl rfl (fun w' h => by simp [go_sem, h.2.2.2]) hS (by simp [go_sem]; exact rfl) ?_
    refine pick_op (i := 9) (v := .pointer (some ⟨b6, 0, none⟩)) (by kernel_rfl) rfl (by kernel_rfl) (by kernel_rfl) rfl rfl (fun w' _ => by simp [go_sem]) hS (by simp [go_sem]; exact rfl) ?_
    refine pick_op (i := 10) (v := .int .i64 n) (by kernel_rfl) rfl (by kernel_rfl) (by kernel_rfl) rfl rfl (fun w' h => by simp [go_sem, h.2.2.1]) hS (by simp [go_sem]; exact rfl) ?_
    refine pick_op (i := 11) (v := .int .i64 (n + 1)) (by kernel_rfl) rfl (by kernel_rfl) (by kernel_rfl) rfl rfl (fun w' _ => by simp [go_sem]; exact (IntWalk.i64_left _).trans w2) hS (by simp [go_sem]; exact rfl) ?_
    refine pick_enter (i := 12) (f := 67) (args := #[.int .i64 (n + 1)]) rfl (by kernel_rfl) rfl rfl (by simp [go_sem]) ?_
    refine (inFunction_calls (n + 1) _).mono ?_
    rintro e X1 ⟨rfl, hbx⟩
    have HX1 := hid (HD.out.trans (hbx.mono HD.out.size))
    clear hbx hS
    have hS := HCl.out _ HX1.out
    refine ⟨_, rfl, hS, ?_⟩
    refine pick_frame (by simp [go_sem]; exact rfl) ?_
    refine pick_op (i := 13) (v := .agg #[.int .i64 ta, .int .i64 (n + 1), .int .i64 0, .int .i64 2]) (by kernel_rfl) rfl (by kernel_rfl) (by kernel_rfl) rfl rfl (fun w' _ => by simp [go_sem]) hS (by simp [go_sem]; exact rfl) ?_
    have HA : Hid (Below X.heap.size X (X1.alloc (.cells #[.int .i64 ta, .int .i64 (n + 1), .int .i64 0, .int .i64 2] 67))) := HX1.out.alloc HX1.out.size _
    refine pick_make (i := 14) (v := .slice (some ⟨X1.heap.size, 0, none⟩) 1 1) (w1 := X1.alloc (.cells #[.int .i64 ta, .int .i64 (n + 1), .int .i64 0, .int .i64 2] 67)) rfl (by kernel_rfl) rfl rfl (by simp [go_sem]) (HCl.out _ HA.out) (by simp [go_sem]; exact rfl) ?_
    refine pick_make (i := 15) (v := .slice (some ⟨X1.heap.size, 0, none⟩) 1 1) (w1 := X1.alloc (.cells #[.int .i64 ta, .int .i64 (n + 1), .int .i64 0, .int .i64 2] 67)) rfl (by kernel_rfl) rfl rfl (by simp [go_sem]) (HCl.out _ HA.out) (by simp [go_sem]; exact rfl) ?_
    refine pick_end (by kernel_rfl) ?_
    have HR0 : Hid (Rw4 W (X1.alloc (.cells #[.int .i64 ta, .int .i64 (n + 1), .int .i64 0, .int .i64 2] 67)) b5 b6 21 a b c n v p [(ta, ⟨n + 1, 0, 2⟩)] (.slice (some ⟨X1.heap.size, 0, none⟩) 1 1)) := ⟨⟨HBx.out.bel.trans (HA.out.mono HBx.out.bel.size), (HA.out.block _ (heap_lt HBx.out.i)).trans HBx.out.i, (HA.out.block _ (heap_lt HBx.out.s)).trans HBx.out.s⟩, World.ownsRow_lit X1 _ 1 (Nat.le_trans HBx.out.bel.size HX1.out.size) (by decide) rfl⟩
    generalize (.slice (some ⟨X1.heap.size, 0, none⟩) 1 1 : Value) = va at *
    obtain ⟨X2, hX2⟩ : ∃ X2, X1.alloc (.cells #[.int .i64 ta, .int .i64 (n + 1), .int .i64 0, .int .i64 2] 67) = X2 := ⟨_, rfl⟩
    rw [hX2] at HR0 ⊢
    clear hX2 hS HCl HA HD HX1 HBx
    have i1 := cell_of_heap HR0.out.bx.i 1
    simp at i1
    go_wp2_with fail
    clear i1
    have HC : Hid (Calls Tryz.prog 88 #[.pointer (some ⟨Fb, 0, none⟩), .int .i64 a] X2 (ClauseP bc oc ka B X2)) := by
      show Calls _ _ _ _ _
      have h1 := HBk.out
      rw [h1.2.2.2.2.1]
      exact tabClauses_calls ((HR0.out.bx.bel.cell (block_in0 F0.out)).trans F0.out) ((HR0.out.bx.bel.cell (block_in0 FT2.out)).trans FT2.out) (by have := HNe.out; omega) (by have := HNe.out; omega) (by have := HNe.out; omega)
    refine HC.out.mono ?_
    rintro e X3 ⟨ad, cp, rfl, had, hb3⟩
    have HAd := hid had
    have HR1 := hid (HR0.out.below hb3)
    clear had hb3 HC HR0
    have HL : Hid (∀ j, j < B → (clausesZ is (ka : Int)).take (j + 1) = (clausesZ is (ka : Int)).take j ++ [is.getD (ka + (j + 1)) default]) := fun j hj => linesI_next (by rw [HBk.out.2.2.2.2.2.1]) HBk.out.1 hj
    have HLl : Hid ((clausesZ is (ka : Int)).length = B) := linesI_len (by rw [HBk.out.2.2.2.2.2.1]) HBk.out.1
    go_wp2_with fail
    go_loopw [7, 44] (fun va i wr => ∃ j : Nat, i = .int .i64 (j : Int) ∧ j ≤ B ∧ Hid (Rw4 W wr b5 b6 21 a b c n v p ((ta, (⟨n + 1, 0, 2⟩ : Sq)) :: ((clausesZ is (ka : Int)).take j).map (fun c => (c.b, (⟨n + 2, 0, 2⟩ : Sq)))) va)) (fun _ i _ => B - (intOf i).toNat)
    case atStart => exact ⟨0, rfl, Nat.zero_le _, HR1⟩
    case round =>
      clear HR1
      obtain ⟨j, rfl, hj, HRr⟩ := hrel
      have HEl : Hid (((ta, (⟨n + 1, 0, 2⟩ : Sq)) :: ((clausesZ is (ka : Int)).take j).map (fun c => (c.b, (⟨n + 2, 0, 2⟩ : Sq)))).length ≤ 10) := by
        show _ ≤ _
        simp only [List.length_cons, List.length_map, List.length_take]
        have := HBk.out
        omega
      by_cases hlt : (j : Int) < (B : Int)
      · have hjB : j < B := by omega
        have hkj : ka + (j + 1) < is.length := by have := HBk.out; omega
        have hinW := HBk.out.2.2.2.2.2.2.2.below HRr.out.bx.bel HBk.out.2.2.2.2.2.2.1
        have f0 := hinW (ka + (j + 1)) hkj 0 (by omega)
        have f1 := hinW (ka + (j + 1)) hkj 1 (by omega)
        have f2 := hinW (ka + (j + 1)) hkj 2 (by omega)
        have f3 := hinW (ka + (j + 1)) hkj 3 (by omega)
        have hnx := HL.out j hjB
        obtain ⟨⟨fop, fa, fb, fc⟩, hf⟩ : ∃ i, is.getD (ka + (j + 1)) default = i := ⟨_, rfl⟩
        rw [hf] at f0 f1 f2 f3 hnx
        have eo : oc + (ka + (j + 1)) * 4 = oc + (ka + 1) * 4 + j * 4 := by omega
        rw [eo] at f0 f1 f2 f3
        simp only [In.cell, Nat.add_zero] at f0 f1 f2 f3
        have had := HAd.out (by omega)
        subst had
        have hj0 : (0 : Int) ≤ (j : Int) := by omega
        have hst : B - (intOf (.int .i64 ((j + 1 : Nat) : Int))).toNat < B - (intOf (.int .i64 (j : Int))).toNat := by simp only [intOf, Int.toNat_natCast]; omega
        have HNx := hid hnx
        have HSt := hid hst
        have HJB := hid hjB
        obtain ⟨off, hoff⟩ : ∃ off, oc + (ka + 1) * 4 = off := ⟨_, rfl⟩
        rw [hoff] at f0 f1 f2 f3 ⊢
        have hA5 := (MapKept.heap_alloc wr (.cells #[.int .i64 fop, .int .i64 fa, .int .i64 fb, .int .i64 fc] 31)).1
        have hB5 := (Below.refl wr.heap.size wr).alloc (Nat.le_refl _) (.cells #[.int .i64 fop, .int .i64 fa, .int .i64 fb, .int .i64 fc] 31)
        obtain ⟨V, hV⟩ : ∃ V, wr.alloc (.cells #[.int .i64 fop, .int .i64 fa, .int .i64 fb, .int .i64 fc] 31) = V := ⟨_, rfl⟩
        rw [hV] at hA5 hB5
        obtain ⟨Tb, hTb⟩ : ∃ Tb, wr.heap.size = Tb := ⟨_, rfl⟩
        have HRv := hid (HRr.out.below hB5)
        rw [hTb] at hA5
        have HV := hid hV
        have HTb := hid hA5
        clear hnx hf hinW hst eo hkj hjB hj hoff hB5 hV
        go_wp2_with fail
        rw [HV.out]
        have t2 := cell_of_heap hA5 2
        have s0 := cell_of_heap HRv.out.bx.s 0
        simp at t2 s0
        have HCl : Hid (∀ Z, Below V.heap.size V Z → (fun w' : World => w'.cell? ⟨Tb, 2, none⟩ = some (.int .i64 fb) ∧ w'.cell? ⟨b6, 0, none⟩ = some (.int .i64 n)) Z) := fun Z hZ => ⟨(hZ.cell (block_in0 t2)).trans t2, (hZ.cell (block_in0 s0)).trans s0⟩
        have HD : Hid (Below V.heap.size V V.drew) := (Below.refl _ _).drew
        have hS := HCl.out _ HD.out
        clear t2 s0 HV hTb f0 f1 f2 f3 hA5
        refine pick_begin (S := (fun w' : World => w'.cell? ⟨Tb, 2, none⟩ = some (.int .i64 fb) ∧ w'.cell? ⟨b6, 0, none⟩ = some (.int .i64 n))) (by kernel_rfl) rfl rfl ?_
        refine pick_op (i := 0) (v := u7) (by kernel_rfl) rfl (by kernel_rfl) (by kernel_rfl) rfl rfl (fun w' _ => by simp [go_sem]) hS (by simp [go_sem]; exact rfl) ?_
        refine pick_op (i := 1) (v := .pointer (some ⟨Tb, 2, none⟩)) (by kernel_rfl) rfl (by kernel_rfl) (by kernel_rfl) rfl rfl (fun w' _ => by simp [go_sem]) hS (by simp [go_sem]; exact rfl) ?_
        refine pick_op (i := 2) (v := .int .i64 fb) (by kernel_rfl) rfl (by kernel_rfl) (by kernel_rfl) rfl rfl (fun w' h => by simp [go_sem, h.1]) hS (by simp [go_sem]; exact rfl) ?_
        refine pick_op (i := 3) (v := .pointer (some ⟨b6, 0, none⟩)) (by kernel_rfl) rfl (by kernel_rfl) (by kernel_rfl) rfl rfl (fun w' _ => by simp [go_sem]) hS (by simp [go_sem]; exact rfl) ?_
        refine pick_op (i := 4) (v := .int .i64 n) (by kernel_rfl) rfl (by kernel_rfl) (by kernel_rfl) rfl rfl (fun w' h => by simp [go_sem, h.2]) hS (by simp [go_sem]; exact rfl) ?_
        refine pick_op (i := 5) (v := .int .i64 (n + 2)) (by kernel_rfl) rfl (by kernel_rfl) (by kernel_rfl) rfl rfl (fun w' _ => by simp [go_sem]; exact (IntWalk.i64_left _).trans w3) hS (by simp [go_sem]; exact rfl) ?_
        refine pick_enter (i := 6) (f := 67) (args := #[.int .i64 (n + 2)]) rfl (by kernel_rfl) rfl rfl (by simp [go_sem]) ?_
        refine (inFunction_calls (n + 2) _).mono ?_
        rintro e X4 ⟨rfl, hbx⟩
        have HX4 := hid (HD.out.trans (hbx.mono HD.out.size))
        clear hbx hS
        have hS := HCl.out _ HX4.out
        refine ⟨_, rfl, hS, ?_⟩
        refine pick_frame (by simp [go_sem]; exact rfl) ?_
        refine pick_op (i := 7) (v := .agg #[.int .i64 fb, .int .i64 (n + 2), .int .i64 0, .int .i64 2]) (by kernel_rfl) rfl (by kernel_rfl) (by kernel_rfl) rfl rfl (fun w' _ => by simp [go_sem]) hS (by simp [go_sem]; exact rfl) ?_
        have hAX5 := (MapKept.heap_alloc X4 (.cells #[.int .i64 fb, .int .i64 (n + 2), .int .i64 0, .int .i64 2] 67)).1
        have HBX5 : Hid (Below V.heap.size V (X4.alloc (.cells #[.int .i64 fb, .int .i64 (n + 2), .int .i64 0, .int .i64 2] 67))) := HX4.out.alloc HX4.out.size _
        refine pick_make (i := 8) (v := .slice (some ⟨X4.heap.size, 0, none⟩) 1 1) (w1 := X4.alloc (.cells #[.int .i64 fb, .int .i64 (n + 2), .int .i64 0, .int .i64 2] 67)) rfl (by kernel_rfl) rfl rfl (by simp [go_sem]) (HCl.out _ HBX5.out) (by simp [go_sem]; exact rfl) ?_
        have HLc := hid (lit_cells X4 [.int .i64 fb, .int .i64 (n + 2), .int .i64 0, .int .i64 2] 67)
        have HRb := hid (HRv.out.below HBX5.out)
        obtain ⟨X5, hX5⟩ : ∃ X, X4.alloc (.cells #[.int .i64 fb, .int .i64 (n + 2), .int .i64 0, .int .i64 2] 67) = X := ⟨_, rfl⟩
        have HLc2 : Hid (∀ j u, [.int .i64 fb, .int .i64 (n + 2), .int .i64 0, .int .i64 2][j]? = some u → X5.cell? ((⟨X4.heap.size, 0, none⟩ : Addr).add j) = some u) := by
          rw [← hX5]
          exact HLc.out
        rw [hX5] at HRb HBX5 ⊢
        clear hX5 hAX5 HLc
        obtain ⟨i0, hi, hz0, hz1, hz2⟩ := info_parts info_exit
        obtain ⟨va2, X6, hrun, hown, hgrow, -, hat2⟩ := run_append_own_at (P := Tryz.prog) X5 W.heap.size 95 95 67 i0 _ 4 32 Tryz.underlying95 hi hz0 hz1 hz2 rfl (by decide) u7 (((ta, (⟨n + 1, 0, 2⟩ : Sq)) :: ((clausesZ is (ka : Int)).take j).map (fun c => (c.b, (⟨n + 2, 0, 2⟩ : Sq)))).length) (rowE ((ta, (⟨n + 1, 0, 2⟩ : Sq)) :: ((clausesZ is (ka : Int)).take j).map (fun c => (c.b, (⟨n + 2, 0, 2⟩ : Sq))))) HRb.out.row ⟨X4.heap.size, 0, none⟩ 1 1 [.int .i64 fb, .int .i64 (n + 2), .int .i64 0, .int .i64 2] rfl HLc2.out (fun u hu => by
          simp only [List.mem_cons, List.not_mem_nil, or_false] at hu
          rcases hu with rfl | rfl | rfl | rfl <;> rfl) (by unfold maxLen; have := HEl.out; omega) (by have := HEl.out; omega) HRb.out.bx.bel.size
        have HR6 := hid (HRb.out.more (es' := [(fb, ⟨n + 2, 0, 2⟩)]) (Below.refl _ _) hown hgrow)
        obtain ⟨av, ln, cv, hva⟩ : ∃ av ln cv, va2 = .slice av ln cv := by
          obtain ⟨a', c', h'⟩ := fl_slice HR6.out.row
          exact ⟨a', _, c', h'⟩
        subst hva
        have hT6 := grown_cells HRb.out.row hgrow ((HBX5.out.block Tb (heap_lt HTb.out)).trans HTb.out) (by decide)
        have t26 := cell_of_heap hT6 2
        have s06 := cell_of_heap HR6.out.bx.s 0
        simp at t26 s06
        have hS6 : (fun w' : World => w'.cell? ⟨Tb, 2, none⟩ = some (.int .i64 fb) ∧ w'.cell? ⟨b6, 0, none⟩ = some (.int .i64 n)) X6 := ⟨t26, s06⟩
        clear hT6 t26 s06
        refine pick_make (i := 9) (v := .slice av ln cv) (w1 := X6) rfl (by kernel_rfl) rfl rfl (append_run (s := .tmp 48) (x := .tmp 56) (t := 95) rfl rfl rfl hrun) hS6 (by simp [go_sem]; exact rfl) ?_
        refine pick_make (i := 10) (v := .slice av ln cv) (w1 := X6) rfl (by kernel_rfl) rfl rfl (by simp [go_sem]) hS6 (by simp [go_sem]; exact rfl) ?_
        refine pick_end (by kernel_rfl) ?_
        clear hrun hown hgrow hat2 hi hz0 hz1 hz2 hS6 hS
        go_wp2_with fail
        try rw [wrap_inc HJB.out (by have := HBk.out; omega)]
        refine ⟨⟨j + 1, rfl, HJB.out, ?_⟩, HSt.out⟩
        show Rw4 _ _ _ _ _ _ _ _ _ _ _ _ _
        rw [HNx.out, List.map_append, ← List.cons_append]
        exact HR6.out
      · have hjB : j = B := by omega
        subst hjB
        have HEs : Hid (((ta, (⟨n + 1, 0, 2⟩ : Sq)) :: ((clausesZ is (ka : Int)).take j).map (fun c => (c.b, (⟨n + 2, 0, 2⟩ : Sq)))) = (ta, (⟨n + 1, 0, 2⟩ : Sq)) :: (clausesZ is (ka : Int)).map (fun c => (c.b, (⟨n + 2, 0, 2⟩ : Sq)))) := by
          show _ = _
          rw [List.take_of_length_le (by rw [HLl.out]; exact Nat.le_refl _)]
        clear hlt hj
        obtain ⟨V, hVe⟩ : ∃ V, wr = V := ⟨_, rfl⟩
        have i3 := cell_of_heap HRr.out.bx.i 3
        have s0 := cell_of_heap HRr.out.bx.s 0
        have s1 := cell_of_heap HRr.out.bx.s 1
        have s2 := cell_of_heap HRr.out.bx.s 2
        simp at i3 s0 s1 s2
        go_wp2_with fail
        subst hVe
        have HCl : Hid (∀ Z, Below wr.heap.size wr Z → (fun w' : World => w'.cell? ⟨b5, 3, none⟩ = some (.int .i64 c) ∧ w'.cell? ⟨b6, 0, none⟩ = some (.int .i64 n) ∧ w'.cell? ⟨b6, 1, none⟩ = some (.int .i64 v) ∧ w'.cell? ⟨b6, 2, none⟩ = some (.int .i64 p)) Z) := fun Z hZ => ⟨(hZ.cell (block_in0 i3)).trans i3, (hZ.cell (block_in0 s0)).trans s0, (hZ.cell (block_in0 s1)).trans s1, (hZ.cell (block_in0 s2)).trans s2⟩
        have HD : Hid (Below wr.heap.size wr wr.drew) := (Below.refl _ _).drew
        have hS := HCl.out _ HD.out
        clear i3 s0 s1 s2
        refine pick_begin (S := (fun w' : World => w'.cell? ⟨b5, 3, none⟩ = some (.int .i64 c) ∧ w'.cell? ⟨b6, 0, none⟩ = some (.int .i64 n) ∧ w'.cell? ⟨b6, 1, none⟩ = some (.int .i64 v) ∧ w'.cell? ⟨b6, 2, none⟩ = some (.int .i64 p))) (by kernel_rfl) rfl rfl ?_
        refine pick_op (i := 0) (v := u7) (by kernel_rfl) rfl (by kernel_rfl) (by kernel_rfl) rfl rfl (fun w' _ => by simp [go_sem]) hS (by simp [go_sem]; exact rfl) ?_
        refine pick_op (i := 1) (v := .int .i64 (k : Int)) (by kernel_rfl) rfl (by kernel_rfl) (by kernel_rfl) rfl rfl (fun w' _ => by simp [go_sem]) hS (by simp [go_sem]; exact rfl) ?_
        refine pick_op (i := 2) (v := .int .i64 ((k : Int) + 1)) (by kernel_rfl) rfl (by kernel_rfl) (by kernel_rfl) rfl rfl (fun w' _ => by simp [go_sem]; exact (IntWalk.i64_left _).trans w1) hS (by simp [go_sem]; exact rfl) ?_
        refine pick_op (i := 3) (v := .pointer (some ⟨b6, 0, none⟩)) (by kernel_rfl) rfl (by kernel_rfl) (by kernel_rfl) rfl rfl (fun w' _ => by simp [go_sem]) hS (by simp [go_sem]; exact rfl) ?_
        refine pick_op (i := 4) (v := .int .i64 n) (by kernel_rfl) rfl (by kernel_rfl) (by kernel_rfl) rfl rfl (fun w' h => by simp [go_sem, h.2.1]) hS (by simp [go_sem]; exact rfl) ?_
        refine pick_op (i := 5) (v := .agg #[.int .i64 n, .int .i64 0, .int .i64 3]) (by kernel_rfl) rfl (by kernel_rfl) (by kernel_rfl) rfl rfl (fun w' _ => by simp [go_sem]) hS (by simp [go_sem]; exact rfl) ?_
        refine pick_op (i := 6) (v := .agg #[.int .i64 ((k : Int) + 1), .int .i64 n, .int .i64 0, .int .i64 3]) (by kernel_rfl) rfl (by kernel_rfl) (by kernel_rfl) rfl rfl (fun w' _ => by simp [go_sem]) hS (by simp [go_sem]; exact rfl) ?_
        refine pick_op (i := 7) (v := .pointer (some ⟨b5, 3, none⟩)) (by kernel_rfl) rfl (by kernel_rfl) (by kernel_rfl) rfl rfl (fun w' _ => by simp [go_sem]) hS (by simp [go_sem]; exact rfl) ?_
        refine pick_op (i := 8) (v := .int .i64 c) (by kernel_rfl) rfl (by kernel_rfl) (by kernel_rfl) rfl rfl (fun w' h => by simp [go_sem, h.1]) hS (by simp [go_sem]; exact rfl) ?_
        refine pick_op (i := 9) (v := .agg #[.int .i64 n, .int .i64 v, .int .i64 p]) (by kernel_rfl) rfl (by kernel_rfl) (by kernel_rfl) rfl rfl (fun w' h => by simp [go_sem, h.2.1, h.2.2.1, h.2.2.2]) hS (by simp [go_sem]; exact rfl) ?_
        refine pick_enter (i := 10) (f := 66) (args := #[.agg #[.int .i64 n, .int .i64 v, .int .i64 p], .int .i64 0, .int .i64 1]) rfl (by kernel_rfl) rfl rfl (by simp [go_sem]) ?_
        refine (more_calls n v p (0) (1) _ (by have := HM.out; rw [wrap64]; omega) (by have := HM.out; rw [wrap64]; omega)).mono ?_
        rintro e X4 ⟨rfl, hbx⟩
        have HX4 := hid (HD.out.trans (hbx.mono HD.out.size))
        clear hbx hS
        have hS := HCl.out _ HX4.out
        refine ⟨_, rfl, hS, ?_⟩
        refine pick_frame (by simp [go_sem]; exact rfl) ?_
        refine pick_op (i := 11) (v := .agg #[.int .i64 c, .int .i64 (n + 0), .int .i64 (v + 1), .int .i64 p]) (by kernel_rfl) rfl (by kernel_rfl) (by kernel_rfl) rfl rfl (fun w' _ => by simp [go_sem]) hS (by simp [go_sem]; exact rfl) ?_
        have hAX5 := (MapKept.heap_alloc X4 (.cells #[.int .i64 ((k : Int) + 1), .int .i64 n, .int .i64 0, .int .i64 3, .int .i64 c, .int .i64 (n + 0), .int .i64 (v + 1), .int .i64 p] 67)).1
        have HBX5 : Hid (Below wr.heap.size wr (X4.alloc (.cells #[.int .i64 ((k : Int) + 1), .int .i64 n, .int .i64 0, .int .i64 3, .int .i64 c, .int .i64 (n + 0), .int .i64 (v + 1), .int .i64 p] 67))) := HX4.out.alloc HX4.out.size _
        refine pick_make (i := 12) (v := .slice (some ⟨X4.heap.size, 0, none⟩) 2 2) (w1 := X4.alloc (.cells #[.int .i64 ((k : Int) + 1), .int .i64 n, .int .i64 0, .int .i64 3, .int .i64 c, .int .i64 (n + 0), .int .i64 (v + 1), .int .i64 p] 67)) rfl (by kernel_rfl) rfl rfl (by simp [go_sem]) (HCl.out _ HBX5.out) (by simp [go_sem]; exact rfl) ?_
        have HLc := hid (lit_cells X4 [.int .i64 ((k : Int) + 1), .int .i64 n, .int .i64 0, .int .i64 3, .int .i64 c, .int .i64 (n + 0), .int .i64 (v + 1), .int .i64 p] 67)
        have HRb := hid (HRr.out.below HBX5.out)
        obtain ⟨X5, hX5⟩ : ∃ X, X4.alloc (.cells #[.int .i64 ((k : Int) + 1), .int .i64 n, .int .i64 0, .int .i64 3, .int .i64 c, .int .i64 (n + 0), .int .i64 (v + 1), .int .i64 p] 67) = X := ⟨_, rfl⟩
        have HLc2 : Hid (∀ j u, [.int .i64 ((k : Int) + 1), .int .i64 n, .int .i64 0, .int .i64 3, .int .i64 c, .int .i64 (n + 0), .int .i64 (v + 1), .int .i64 p][j]? = some u → X5.cell? ((⟨X4.heap.size, 0, none⟩ : Addr).add j) = some u) := by
          rw [← hX5]
          exact HLc.out
        rw [hX5] at HRb HBX5 ⊢
        clear hX5 hAX5 HLc
        obtain ⟨i0, hi, hz0, hz1, hz2⟩ := info_parts info_exit
        obtain ⟨va2, X6, hrun, hown, hgrow, -, hat2⟩ := run_append_own_at (P := Tryz.prog) X5 W.heap.size 95 95 67 i0 _ 4 32 Tryz.underlying95 hi hz0 hz1 hz2 rfl (by decide) u7 (((ta, (⟨n + 1, 0, 2⟩ : Sq)) :: ((clausesZ is (ka : Int)).take j).map (fun c => (c.b, (⟨n + 2, 0, 2⟩ : Sq)))).length) (rowE ((ta, (⟨n + 1, 0, 2⟩ : Sq)) :: ((clausesZ is (ka : Int)).take j).map (fun c => (c.b, (⟨n + 2, 0, 2⟩ : Sq))))) HRb.out.row ⟨X4.heap.size, 0, none⟩ 2 2 [.int .i64 ((k : Int) + 1), .int .i64 n, .int .i64 0, .int .i64 3, .int .i64 c, .int .i64 (n + 0), .int .i64 (v + 1), .int .i64 p] rfl HLc2.out (fun u hu => by
          simp only [List.mem_cons, List.not_mem_nil, or_false] at hu
          rcases hu with rfl | rfl | rfl | rfl | rfl | rfl | rfl | rfl <;> rfl) (by unfold maxLen; have := HEl.out; omega) (by have := HEl.out; omega) HRb.out.bx.bel.size
        have HR6 := hid (HRb.out.more (es' := [((k : Int) + 1, ⟨n, 0, 3⟩), (c, ⟨n + 0, v + 1, p⟩)]) (Below.refl _ _) hown hgrow)
        obtain ⟨av, ln, cv, hva⟩ : ∃ av ln cv, va2 = .slice av ln cv := by
          obtain ⟨a', c', h'⟩ := fl_slice HR6.out.row
          exact ⟨a', _, c', h'⟩
        subst hva
        have i36 := cell_of_heap HR6.out.bx.i 3
        have s06 := cell_of_heap HR6.out.bx.s 0
        have s16 := cell_of_heap HR6.out.bx.s 1
        have s26 := cell_of_heap HR6.out.bx.s 2
        simp at i36 s06 s16 s26
        have hS6 : (fun w' : World => w'.cell? ⟨b5, 3, none⟩ = some (.int .i64 c) ∧ w'.cell? ⟨b6, 0, none⟩ = some (.int .i64 n) ∧ w'.cell? ⟨b6, 1, none⟩ = some (.int .i64 v) ∧ w'.cell? ⟨b6, 2, none⟩ = some (.int .i64 p)) X6 := ⟨i36, s06, s16, s26⟩
        clear i36 s06 s16 s26
        refine pick_make (i := 13) (v := .slice av ln cv) (w1 := X6) rfl (by kernel_rfl) rfl rfl (append_run (s := .tmp 59) (x := .tmp 71) (t := 95) rfl rfl rfl hrun) hS6 (by simp [go_sem]; exact rfl) ?_
        refine pick_make (i := 14) (v := .slice av ln cv) (w1 := X6) rfl (by kernel_rfl) rfl rfl (by simp [go_sem]) hS6 (by simp [go_sem]; exact rfl) ?_
        refine pick_end (by kernel_rfl) ?_
        clear hrun hown hgrow hat2 hi hz0 hz1 hz2 hS6 hS
        go_wp2_with fail
        go_ret
        rw [HZ.out, ← HEs.out]
        exact exits_owns HR6.out.bx.bel HR6.out.row
  · have hB1 : Below W.heap.size W (W.drew.alloc (.cells #[.int .i64 0, .int .i64 0, .int .i64 0] 43)) := hD.alloc hD.size _
    have hB2 : Below W.heap.size W ((W.drew.alloc (.cells #[.int .i64 0, .int .i64 0, .int .i64 0] 43)).alloc (.cells #[.int .i64 0, .int .i64 0, .int .i64 0, .int .i64 0] 31)) := hB1.alloc hB1.size _
    refine ⟨_, .pointer (some ⟨W.heap.size, 0, none⟩), (W.drew.alloc (.cells #[.int .i64 0, .int .i64 0, .int .i64 0] 43)), rfl, rfl, by simp [go_sem], HCl.out _ hB1, ?_⟩
    refine pick_frame (by simp [go_sem]; exact rfl) ?_
    refine pick_make (i := 14) (v := .pointer (some ⟨W.heap.size + 1, 0, none⟩)) (w1 := ((W.drew.alloc (.cells #[.int .i64 0, .int .i64 0, .int .i64 0] 43)).alloc (.cells #[.int .i64 0, .int .i64 0, .int .i64 0, .int .i64 0] 31))) rfl (by kernel_rfl) rfl rfl (by simp [go_sem]) (HCl.out _ hB2) (by simp [go_sem]; exact rfl) ?_
    have g5 : ((W.drew.alloc (.cells #[.int .i64 0, .int .i64 0, .int .i64 0] 43)).alloc (.cells #[.int .i64 0, .int .i64 0, .int .i64 0, .int .i64 0] 31)).heap[W.heap.size + 1]? = some (.cells #[.int .i64 0, .int .i64 0, .int .i64 0, .int .i64 0] 31) := (two_new W.drew _ _).2
    have g6 : ((W.drew.alloc (.cells #[.int .i64 0, .int .i64 0, .int .i64 0] 43)).alloc (.cells #[.int .i64 0, .int .i64 0, .int .i64 0, .int .i64 0] 31)).heap[W.heap.size]? = some (.cells #[.int .i64 0, .int .i64 0, .int .i64 0] 43) := (two_new W.drew _ _).1
    have HBx := hid (boxed hB2 g5 g6 (by omega) (by omega) 21 a b c n v p)
    have HB4 : Hid (Below W.heap.size W (put4 ((W.drew.alloc (.cells #[.int .i64 0, .int .i64 0, .int .i64 0] 43)).alloc (.cells #[.int .i64 0, .int .i64 0, .int .i64 0, .int .i64 0] 31)) (W.heap.size + 1) (.int .i64 21) (.int .i64 a) (.int .i64 b) (.int .i64 c))) := by
      obtain ⟨p1, p2, p3, p4, p5, p6⟩ := put4_is g5 (.int .i64 21) (.int .i64 a) (.int .i64 b) (.int .i64 c)
      exact ⟨p4.trans hB2.os, p5.trans hB2.tape, p6.trans hB2.output, by rw [p3]; exact hB2.size, fun q hq => (p2 q (by omega)).trans (hB2.block q hq)⟩
    refine pick_skip (i := 16) rfl (w1 := put4 ((W.drew.alloc (.cells #[.int .i64 0, .int .i64 0, .int .i64 0] 43)).alloc (.cells #[.int .i64 0, .int .i64 0, .int .i64 0, .int .i64 0] 31)) (W.heap.size + 1) (.int .i64 21) (.int .i64 a) (.int .i64 b) (.int .i64 c)) rfl (by kernel_rfl) rfl rfl (by simp [go_sem, put4]) (HCl.out _ HB4.out) ?_
    refine pick_skip (i := 17) rfl (w1 := put3 (put4 ((W.drew.alloc (.cells #[.int .i64 0, .int .i64 0, .int .i64 0] 43)).alloc (.cells #[.int .i64 0, .int .i64 0, .int .i64 0, .int .i64 0] 31)) (W.heap.size + 1) (.int .i64 21) (.int .i64 a) (.int .i64 b) (.int .i64 c)) (W.heap.size) (.int .i64 n) (.int .i64 v) (.int .i64 p)) rfl (by kernel_rfl) rfl rfl (by simp [go_sem, put4, put3]) (HCl.out _ HBx.out.bel) ?_
    refine pick_end (by kernel_rfl) ?_
    obtain ⟨X, hX⟩ : ∃ X, put3 (put4 ((W.drew.alloc (.cells #[.int .i64 0, .int .i64 0, .int .i64 0] 43)).alloc (.cells #[.int .i64 0, .int .i64 0, .int .i64 0, .int .i64 0] 31)) (W.heap.size + 1) (.int .i64 21) (.int .i64 a) (.int .i64 b) (.int .i64 c)) (W.heap.size) (.int .i64 n) (.int .i64 v) (.int .i64 p) = X := ⟨_, rfl⟩
    rw [hX] at HBx ⊢
    obtain ⟨b5, hb5⟩ : ∃ x, W.heap.size + 1 = x := ⟨_, rfl⟩
    obtain ⟨b6, hb6⟩ : ∃ x, W.heap.size = x := ⟨_, rfl⟩
    rw [hb5] at HBx ⊢
    rw [hb6] at HBx ⊢
    clear hX hb5 hb6 g5 g6 hB1 hB2 HB4 hS HCl hD
    clear f0 f1 f2 f3 f4 f5 f6 f7 f8
    have i1 := cell_of_heap HBx.out.i 1
    have s0 := cell_of_heap HBx.out.s 0
    simp at i1 s0
    have g0 := (HBx.out.bel.cell (block_in0 F0.out)).trans F0.out
    have gt := (HBx.out.bel.cell (block_in0 FT.out)).trans FT.out
    go_wp2_with fail
    have HCl : Hid (∀ Z, Below X.heap.size X Z → (fun w' : World => w'.cell? ⟨Fb, 0, none⟩ = some (.slice (some ⟨bc, oc, none⟩) N cc) ∧ w'.cell? ⟨b5, 1, none⟩ = some (.int .i64 a) ∧ w'.cell? ⟨b6, 0, none⟩ = some (.int .i64 n) ∧ w'.cell? ⟨bc, oc + ka * 4 + 1, none⟩ = some (.int .i64 ta)) Z) := fun Z hZ => ⟨(hZ.cell (block_in0 g0)).trans g0, (hZ.cell (block_in0 i1)).trans i1, (hZ.cell (block_in0 s0)).trans s0, (hZ.cell (block_in0 gt)).trans gt⟩
    have HD : Hid (Below X.heap.size X X.drew) := (Below.refl _ _).drew
    have hS := HCl.out _ HD.out
    clear i1 s0 g0 gt
    refine pick_begin (S := (fun w' : World => w'.cell? ⟨Fb, 0, none⟩ = some (.slice (some ⟨bc, oc, none⟩) N cc) ∧ w'.cell? ⟨b5, 1, none⟩ = some (.int .i64 a) ∧ w'.cell? ⟨b6, 0, none⟩ = some (.int .i64 n) ∧ w'.cell? ⟨bc, oc + ka * 4 + 1, none⟩ = some (.int .i64 ta))) (by kernel_rfl) rfl rfl ?_
    refine pick_op (i := 0) (v := .pointer (some ⟨Fb, 0, none⟩)) (by kernel_rfl) rfl (by kernel_rfl) (by kernel_rfl) rfl rfl (fun w' _ => by simp [go_sem]) hS (by simp [go_sem]; exact rfl) ?_
    refine pick_op (i := 1) (v := .pointer (some ⟨Fb, 0, none⟩)) (by kernel_rfl) rfl (by kernel_rfl) (by kernel_rfl) rfl rfl (fun w' _ => by simp [go_sem]) hS (by simp [go_sem]; exact rfl) ?_
    refine pick_op (i := 2) (v := .pointer (some ⟨Fb, 0, none⟩)) (by kernel_rfl) rfl (by kernel_rfl) (by kernel_rfl) rfl rfl (fun w' _ => by simp [go_sem]) hS (by simp [go_sem]; exact rfl) ?_
    refine pick_op (i := 3) (v := .slice (some ⟨bc, oc, none⟩) N cc) (by kernel_rfl) rfl (by kernel_rfl) (by kernel_rfl) rfl rfl (fun w' h => by simp [go_sem, h.1]) hS (by simp [go_sem]; exact rfl) ?_
    refine pick_op (i := 4) (v := .pointer (some ⟨b5, 1, none⟩)) (by kernel_rfl) rfl (by kernel_rfl) (by kernel_rfl) rfl rfl (fun w' _ => by simp [go_sem]) hS (by simp [go_sem]; exact rfl) ?_
    refine pick_op (i := 5) (v := .int .i64 a) (by kernel_rfl) rfl (by kernel_rfl) (by kernel_rfl) rfl rfl (fun w' h => by simp [go_sem, h.2.1]) hS (by simp [go_sem]; exact rfl) ?_
    refine pick_op (i := 6) (v := .pointer (some ⟨bc, oc + ka * 4, none⟩)) (by kernel_rfl) rfl (by kernel_rfl) (by kernel_rfl) rfl rfl (fun w' _ => by simp [go_sem, ha0, ha1, hat]) hS (by simp [go_sem]; exact rfl) ?_
    refine pick_op (i := 7) (v := .pointer (some ⟨bc, oc + ka * 4 + 1, none⟩)) (by kernel_rfl) rfl (by kernel_rfl) (by kernel_rfl) rfl rfl (fun w' _ => by simp [go_sem]) hS (by simp [go_sem]; exact rfl) ?_
    refine pick_op (i := 8) (v := .int .i64 ta) (by kernel_rfl) rfl (by kernel_rfl) (by kernel_rfl) rfl rfl (fun w' h => by simp [go_sem, h.2.2.2]) hS (by simp [go_sem]; exact rfl) ?_
    refine pick_op (i := 9) (v := .pointer (some ⟨b6, 0, none⟩)) (by kernel_rfl) rfl (by kernel_rfl) (by kernel_rfl) rfl rfl (fun w' _ => by simp [go_sem]) hS (by simp [go_sem]; exact rfl) ?_
    refine pick_op (i := 10) (v := .int .i64 n) (by kernel_rfl) rfl (by kernel_rfl) (by kernel_rfl) rfl rfl (fun w' h => by simp [go_sem, h.2.2.1]) hS (by simp [go_sem]; exact rfl) ?_
    refine pick_op (i := 11) (v := .int .i64 (n + 1)) (by kernel_rfl) rfl (by kernel_rfl) (by kernel_rfl) rfl rfl (fun w' _ => by simp [go_sem]; exact (IntWalk.i64_left _).trans w2) hS (by simp [go_sem]; exact rfl) ?_
    refine pick_enter (i := 12) (f := 67) (args := #[.int .i64 (n + 1)]) rfl (by kernel_rfl) rfl rfl (by simp [go_sem]) ?_
    refine (inFunction_calls (n + 1) _).mono ?_
    rintro e X1 ⟨rfl, hbx⟩
    have HX1 := hid (HD.out.trans (hbx.mono HD.out.size))
    clear hbx hS
    have hS := HCl.out _ HX1.out
    refine ⟨_, rfl, hS, ?_⟩
    refine pick_frame (by simp [go_sem]; exact rfl) ?_
    refine pick_op (i := 13) (v := .agg #[.int .i64 ta, .int .i64 (n + 1), .int .i64 0, .int .i64 2]) (by kernel_rfl) rfl (by kernel_rfl) (by kernel_rfl) rfl rfl (fun w' _ => by simp [go_sem]) hS (by simp [go_sem]; exact rfl) ?_
    have HA : Hid (Below X.heap.size X (X1.alloc (.cells #[.int .i64 ta, .int .i64 (n + 1), .int .i64 0, .int .i64 2] 67))) := HX1.out.alloc HX1.out.size _
    refine pick_make (i := 14) (v := .slice (some ⟨X1.heap.size, 0, none⟩) 1 1) (w1 := X1.alloc (.cells #[.int .i64 ta, .int .i64 (n + 1), .int .i64 0, .int .i64 2] 67)) rfl (by kernel_rfl) rfl rfl (by simp [go_sem]) (HCl.out _ HA.out) (by simp [go_sem]; exact rfl) ?_
    refine pick_make (i := 15) (v := .slice (some ⟨X1.heap.size, 0, none⟩) 1 1) (w1 := X1.alloc (.cells #[.int .i64 ta, .int .i64 (n + 1), .int .i64 0, .int .i64 2] 67)) rfl (by kernel_rfl) rfl rfl (by simp [go_sem]) (HCl.out _ HA.out) (by simp [go_sem]; exact rfl) ?_
    refine pick_end (by kernel_rfl) ?_
    have HR0 : Hid (Rw4 W (X1.alloc (.cells #[.int .i64 ta, .int .i64 (n + 1), .int .i64 0, .int .i64 2] 67)) b5 b6 21 a b c n v p [(ta, ⟨n + 1, 0, 2⟩)] (.slice (some ⟨X1.heap.size, 0, none⟩) 1 1)) := ⟨⟨HBx.out.bel.trans (HA.out.mono HBx.out.bel.size), (HA.out.block _ (heap_lt HBx.out.i)).trans HBx.out.i, (HA.out.block _ (heap_lt HBx.out.s)).trans HBx.out.s⟩, World.ownsRow_lit X1 _ 1 (Nat.le_trans HBx.out.bel.size HX1.out.size) (by decide) rfl⟩
    generalize (.slice (some ⟨X1.heap.size, 0, none⟩) 1 1 : Value) = va at *
    obtain ⟨X2, hX2⟩ : ∃ X2, X1.alloc (.cells #[.int .i64 ta, .int .i64 (n + 1), .int .i64 0, .int .i64 2] 67) = X2 := ⟨_, rfl⟩
    rw [hX2] at HR0 ⊢
    clear hX2 hS HCl HA HD HX1 HBx
    have i1 := cell_of_heap HR0.out.bx.i 1
    simp at i1
    go_wp2_with fail
    clear i1
    have HC : Hid (Calls Tryz.prog 88 #[.pointer (some ⟨Fb, 0, none⟩), .int .i64 a] X2 (ClauseP bc oc ka B X2)) := by
      show Calls _ _ _ _ _
      have h1 := HBk.out
      rw [h1.2.2.2.2.1]
      exact tabClauses_calls ((HR0.out.bx.bel.cell (block_in0 F0.out)).trans F0.out) ((HR0.out.bx.bel.cell (block_in0 FT2.out)).trans FT2.out) (by have := HNe.out; omega) (by have := HNe.out; omega) (by have := HNe.out; omega)
    refine HC.out.mono ?_
    rintro e X3 ⟨ad, cp, rfl, had, hb3⟩
    have HAd := hid had
    have HR1 := hid (HR0.out.below hb3)
    clear had hb3 HC HR0
    have HL : Hid (∀ j, j < B → (clausesZ is (ka : Int)).take (j + 1) = (clausesZ is (ka : Int)).take j ++ [is.getD (ka + (j + 1)) default]) := fun j hj => linesI_next (by rw [HBk.out.2.2.2.2.2.1]) HBk.out.1 hj
    have HLl : Hid ((clausesZ is (ka : Int)).length = B) := linesI_len (by rw [HBk.out.2.2.2.2.2.1]) HBk.out.1
    go_wp2_with fail
    go_loopw [7, 44] (fun va i wr => ∃ j : Nat, i = .int .i64 (j : Int) ∧ j ≤ B ∧ Hid (Rw4 W wr b5 b6 21 a b c n v p ((ta, (⟨n + 1, 0, 2⟩ : Sq)) :: ((clausesZ is (ka : Int)).take j).map (fun c => (c.b, (⟨n + 2, 0, 2⟩ : Sq)))) va)) (fun _ i _ => B - (intOf i).toNat)
    case atStart => exact ⟨0, rfl, Nat.zero_le _, HR1⟩
    case round =>
      clear HR1
      obtain ⟨j, rfl, hj, HRr⟩ := hrel
      have HEl : Hid (((ta, (⟨n + 1, 0, 2⟩ : Sq)) :: ((clausesZ is (ka : Int)).take j).map (fun c => (c.b, (⟨n + 2, 0, 2⟩ : Sq)))).length ≤ 10) := by
        show _ ≤ _
        simp only [List.length_cons, List.length_map, List.length_take]
        have := HBk.out
        omega
      by_cases hlt : (j : Int) < (B : Int)
      · have hjB : j < B := by omega
        have hkj : ka + (j + 1) < is.length := by have := HBk.out; omega
        have hinW := HBk.out.2.2.2.2.2.2.2.below HRr.out.bx.bel HBk.out.2.2.2.2.2.2.1
        have f0 := hinW (ka + (j + 1)) hkj 0 (by omega)
        have f1 := hinW (ka + (j + 1)) hkj 1 (by omega)
        have f2 := hinW (ka + (j + 1)) hkj 2 (by omega)
        have f3 := hinW (ka + (j + 1)) hkj 3 (by omega)
        have hnx := HL.out j hjB
        obtain ⟨⟨fop, fa, fb, fc⟩, hf⟩ : ∃ i, is.getD (ka + (j + 1)) default = i := ⟨_, rfl⟩
        rw [hf] at f0 f1 f2 f3 hnx
        have eo : oc + (ka + (j + 1)) * 4 = oc + (ka + 1) * 4 + j * 4 := by omega
        rw [eo] at f0 f1 f2 f3
        simp only [In.cell, Nat.add_zero] at f0 f1 f2 f3
        have had := HAd.out (by omega)
        subst had
        have hj0 : (0 : Int) ≤ (j : Int) := by omega
        have hst : B - (intOf (.int .i64 ((j + 1 : Nat) : Int))).toNat < B - (intOf (.int .i64 (j : Int))).toNat := by simp only [intOf, Int.toNat_natCast]; omega
        have HNx := hid hnx
        have HSt := hid hst
        have HJB := hid hjB
        obtain ⟨off, hoff⟩ : ∃ off, oc + (ka + 1) * 4 = off := ⟨_, rfl⟩
        rw [hoff] at f0 f1 f2 f3 ⊢
        have hA5 := (MapKept.heap_alloc wr (.cells #[.int .i64 fop, .int .i64 fa, .int .i64 fb, .int .i64 fc] 31)).1
        have hB5 := (Below.refl wr.heap.size wr).alloc (Nat.le_refl _) (.cells #[.int .i64 fop, .int .i64 fa, .int .i64 fb, .int .i64 fc] 31)
        obtain ⟨V, hV⟩ : ∃ V, wr.alloc (.cells #[.int .i64 fop, .int .i64 fa, .int .i64 fb, .int .i64 fc] 31) = V := ⟨_, rfl⟩
        rw [hV] at hA5 hB5
        obtain ⟨Tb, hTb⟩ : ∃ Tb, wr.heap.size = Tb := ⟨_, rfl⟩
        have HRv := hid (HRr.out.below hB5)
        rw [hTb] at hA5
        have HV := hid hV
        have HTb := hid hA5
        clear hnx hf hinW hst eo hkj hjB hj hoff hB5 hV
        go_wp2_with fail
        rw [HV.out]
        have t2 := cell_of_heap hA5 2
        have s0 := cell_of_heap HRv.out.bx.s 0
        simp at t2 s0
        have HCl : Hid (∀ Z, Below V.heap.size V Z → (fun w' : World => w'.cell? ⟨Tb, 2, none⟩ = some (.int .i64 fb) ∧ w'.cell? ⟨b6, 0, none⟩ = some (.int .i64 n)) Z) := fun Z hZ => ⟨(hZ.cell (block_in0 t2)).trans t2, (hZ.cell (block_in0 s0)).trans s0⟩
        have HD : Hid (Below V.heap.size V V.drew) := (Below.refl _ _).drew
        have hS := HCl.out _ HD.out
        clear t2 s0 HV hTb f0 f1 f2 f3 hA5
        refine pick_begin (S := (fun w' : World => w'.cell? ⟨Tb, 2, none⟩ = some (.int .i64 fb) ∧ w'.cell? ⟨b6, 0, none⟩ = some (.int .i64 n))) (by kernel_rfl) rfl rfl ?_
        refine pick_op (i := 0) (v := u7) (by kernel_rfl) rfl (by kernel_rfl) (by kernel_rfl) rfl rfl (fun w' _ => by simp [go_sem]) hS (by simp [go_sem]; exact rfl) ?_
        refine pick_op (i := 1) (v := .pointer (some ⟨Tb, 2, none⟩)) (by kernel_rfl) rfl (by kernel_rfl) (by kernel_rfl) rfl rfl (fun w' _ => by simp [go_sem]) hS (by simp [go_sem]; exact rfl) ?_
        refine pick_op (i := 2) (v := .int .i64 fb) (by kernel_rfl) rfl (by kernel_rfl) (by kernel_rfl) rfl rfl (fun w' h => by simp [go_sem, h.1]) hS (by simp [go_sem]; exact rfl) ?_
        refine pick_op (i := 3) (v := .pointer (some ⟨b6, 0, none⟩)) (by kernel_rfl) rfl (by kernel_rfl) (by kernel_rfl) rfl rfl (fun w' _ => by simp [go_sem]) hS (by simp [go_sem]; exact rfl) ?_
        refine pick_op (i := 4) (v := .int .i64 n) (by kernel_rfl) rfl (by kernel_rfl) (by kernel_rfl) rfl rfl (fun w' h => by simp [go_sem, h.2]) hS (by simp [go_sem]; exact rfl) ?_
        refine pick_op (i := 5) (v := .int .i64 (n + 2)) (by kernel_rfl) rfl (by kernel_rfl) (by kernel_rfl) rfl rfl (fun w' _ => by simp [go_sem]; exact (IntWalk.i64_left _).trans w3) hS (by simp [go_sem]; exact rfl) ?_
        refine pick_enter (i := 6) (f := 67) (args := #[.int .i64 (n + 2)]) rfl (by kernel_rfl) rfl rfl (by simp [go_sem]) ?_
        refine (inFunction_calls (n + 2) _).mono ?_
        rintro e X4 ⟨rfl, hbx⟩
        have HX4 := hid (HD.out.trans (hbx.mono HD.out.size))
        clear hbx hS
        have hS := HCl.out _ HX4.out
        refine ⟨_, rfl, hS, ?_⟩
        refine pick_frame (by simp [go_sem]; exact rfl) ?_
        refine pick_op (i := 7) (v := .agg #[.int .i64 fb, .int .i64 (n + 2), .int .i64 0, .int .i64 2]) (by kernel_rfl) rfl (by kernel_rfl) (by kernel_rfl) rfl rfl (fun w' _ => by simp [go_sem]) hS (by simp [go_sem]; exact rfl) ?_
        have hAX5 := (MapKept.heap_alloc X4 (.cells #[.int .i64 fb, .int .i64 (n + 2), .int .i64 0, .int .i64 2] 67)).1
        have HBX5 : Hid (Below V.heap.size V (X4.alloc (.cells #[.int .i64 fb, .int .i64 (n + 2), .int .i64 0, .int .i64 2] 67))) := HX4.out.alloc HX4.out.size _
        refine pick_make (i := 8) (v := .slice (some ⟨X4.heap.size, 0, none⟩) 1 1) (w1 := X4.alloc (.cells #[.int .i64 fb, .int .i64 (n + 2), .int .i64 0, .int .i64 2] 67)) rfl (by kernel_rfl) rfl rfl (by simp [go_sem]) (HCl.out _ HBX5.out) (by simp [go_sem]; exact rfl) ?_
        have HLc := hid (lit_cells X4 [.int .i64 fb, .int .i64 (n + 2), .int .i64 0, .int .i64 2] 67)
        have HRb := hid (HRv.out.below HBX5.out)
        obtain ⟨X5, hX5⟩ : ∃ X, X4.alloc (.cells #[.int .i64 fb, .int .i64 (n + 2), .int .i64 0, .int .i64 2] 67) = X := ⟨_, rfl⟩
        have HLc2 : Hid (∀ j u, [.int .i64 fb, .int .i64 (n + 2), .int .i64 0, .int .i64 2][j]? = some u → X5.cell? ((⟨X4.heap.size, 0, none⟩ : Addr).add j) = some u) := by
          rw [← hX5]
          exact HLc.out
        rw [hX5] at HRb HBX5 ⊢
        clear hX5 hAX5 HLc
        obtain ⟨i0, hi, hz0, hz1, hz2⟩ := info_parts info_exit
        obtain ⟨va2, X6, hrun, hown, hgrow, -, hat2⟩ := run_append_own_at (P := Tryz.prog) X5 W.heap.size 95 95 67 i0 _ 4 32 Tryz.underlying95 hi hz0 hz1 hz2 rfl (by decide) u7 (((ta, (⟨n + 1, 0, 2⟩ : Sq)) :: ((clausesZ is (ka : Int)).take j).map (fun c => (c.b, (⟨n + 2, 0, 2⟩ : Sq)))).length) (rowE ((ta, (⟨n + 1, 0, 2⟩ : Sq)) :: ((clausesZ is (ka : Int)).take j).map (fun c => (c.b, (⟨n + 2, 0, 2⟩ : Sq))))) HRb.out.row ⟨X4.heap.size, 0, none⟩ 1 1 [.int .i64 fb, .int .i64 (n + 2), .int .i64 0, .int .i64 2] rfl HLc2.out (fun u hu => by
          simp only [List.mem_cons, List.not_mem_nil, or_false] at hu
          rcases hu with rfl | rfl | rfl | rfl <;> rfl) (by unfold maxLen; have := HEl.out; omega) (by have := HEl.out; omega) HRb.out.bx.bel.size
        have HR6 := hid (HRb.out.more (es' := [(fb, ⟨n + 2, 0, 2⟩)]) (Below.refl _ _) hown hgrow)
        obtain ⟨av, ln, cv, hva⟩ : ∃ av ln cv, va2 = .slice av ln cv := by
          obtain ⟨a', c', h'⟩ := fl_slice HR6.out.row
          exact ⟨a', _, c', h'⟩
        subst hva
        have hT6 := grown_cells HRb.out.row hgrow ((HBX5.out.block Tb (heap_lt HTb.out)).trans HTb.out) (by decide)
        have t26 := cell_of_heap hT6 2
        have s06 := cell_of_heap HR6.out.bx.s 0
        simp at t26 s06
        have hS6 : (fun w' : World => w'.cell? ⟨Tb, 2, none⟩ = some (.int .i64 fb) ∧ w'.cell? ⟨b6, 0, none⟩ = some (.int .i64 n)) X6 := ⟨t26, s06⟩
        clear hT6 t26 s06
        refine pick_make (i := 9) (v := .slice av ln cv) (w1 := X6) rfl (by kernel_rfl) rfl rfl (append_run (s := .tmp 48) (x := .tmp 56) (t := 95) rfl rfl rfl hrun) hS6 (by simp [go_sem]; exact rfl) ?_
        refine pick_make (i := 10) (v := .slice av ln cv) (w1 := X6) rfl (by kernel_rfl) rfl rfl (by simp [go_sem]) hS6 (by simp [go_sem]; exact rfl) ?_
        refine pick_end (by kernel_rfl) ?_
        clear hrun hown hgrow hat2 hi hz0 hz1 hz2 hS6 hS
        go_wp2_with fail
        try rw [wrap_inc HJB.out (by have := HBk.out; omega)]
        refine ⟨⟨j + 1, rfl, HJB.out, ?_⟩, HSt.out⟩
        show Rw4 _ _ _ _ _ _ _ _ _ _ _ _ _
        rw [HNx.out, List.map_append, ← List.cons_append]
        exact HR6.out
      · have hjB : j = B := by omega
        subst hjB
        have HEs : Hid (((ta, (⟨n + 1, 0, 2⟩ : Sq)) :: ((clausesZ is (ka : Int)).take j).map (fun c => (c.b, (⟨n + 2, 0, 2⟩ : Sq)))) = (ta, (⟨n + 1, 0, 2⟩ : Sq)) :: (clausesZ is (ka : Int)).map (fun c => (c.b, (⟨n + 2, 0, 2⟩ : Sq)))) := by
          show _ = _
          rw [List.take_of_length_le (by rw [HLl.out]; exact Nat.le_refl _)]
        clear hlt hj
        obtain ⟨V, hVe⟩ : ∃ V, wr = V := ⟨_, rfl⟩
        have i3 := cell_of_heap HRr.out.bx.i 3
        have s0 := cell_of_heap HRr.out.bx.s 0
        have s1 := cell_of_heap HRr.out.bx.s 1
        have s2 := cell_of_heap HRr.out.bx.s 2
        simp at i3 s0 s1 s2
        go_wp2_with fail
        subst hVe
        have HCl : Hid (∀ Z, Below wr.heap.size wr Z → (fun w' : World => w'.cell? ⟨b5, 3, none⟩ = some (.int .i64 c) ∧ w'.cell? ⟨b6, 0, none⟩ = some (.int .i64 n) ∧ w'.cell? ⟨b6, 1, none⟩ = some (.int .i64 v) ∧ w'.cell? ⟨b6, 2, none⟩ = some (.int .i64 p)) Z) := fun Z hZ => ⟨(hZ.cell (block_in0 i3)).trans i3, (hZ.cell (block_in0 s0)).trans s0, (hZ.cell (block_in0 s1)).trans s1, (hZ.cell (block_in0 s2)).trans s2⟩
        have HD : Hid (Below wr.heap.size wr wr.drew) := (Below.refl _ _).drew
        have hS := HCl.out _ HD.out
        clear i3 s0 s1 s2
        refine pick_begin (S := (fun w' : World => w'.cell? ⟨b5, 3, none⟩ = some (.int .i64 c) ∧ w'.cell? ⟨b6, 0, none⟩ = some (.int .i64 n) ∧ w'.cell? ⟨b6, 1, none⟩ = some (.int .i64 v) ∧ w'.cell? ⟨b6, 2, none⟩ = some (.int .i64 p))) (by kernel_rfl) rfl rfl ?_
        refine pick_op (i := 0) (v := u7) (by kernel_rfl) rfl (by kernel_rfl) (by kernel_rfl) rfl rfl (fun w' _ => by simp [go_sem]) hS (by simp [go_sem]; exact rfl) ?_
        refine pick_op (i := 1) (v := .int .i64 (k : Int)) (by kernel_rfl) rfl (by kernel_rfl) (by kernel_rfl) rfl rfl (fun w' _ => by simp [go_sem]) hS (by simp [go_sem]; exact rfl) ?_
        refine pick_op (i := 2) (v := .int .i64 ((k : Int) + 1)) (by kernel_rfl) rfl (by kernel_rfl) (by kernel_rfl) rfl rfl (fun w' _ => by simp [go_sem]; exact (IntWalk.i64_left _).trans w1) hS (by simp [go_sem]; exact rfl) ?_
        refine pick_op (i := 3) (v := .pointer (some ⟨b6, 0, none⟩)) (by kernel_rfl) rfl (by kernel_rfl) (by kernel_rfl) rfl rfl (fun w' _ => by simp [go_sem]) hS (by simp [go_sem]; exact rfl) ?_
        refine pick_op (i := 4) (v := .int .i64 n) (by kernel_rfl) rfl (by kernel_rfl) (by kernel_rfl) rfl rfl (fun w' h => by simp [go_sem, h.2.1]) hS (by simp [go_sem]; exact rfl) ?_
        refine pick_op (i := 5) (v := .agg #[.int .i64 n, .int .i64 0, .int .i64 3]) (by kernel_rfl) rfl (by kernel_rfl) (by kernel_rfl) rfl rfl (fun w' _ => by simp [go_sem]) hS (by simp [go_sem]; exact rfl) ?_
        refine pick_op (i := 6) (v := .agg #[.int .i64 ((k : Int) + 1), .int .i64 n, .int .i64 0, .int .i64 3]) (by kernel_rfl) rfl (by kernel_rfl) (by kernel_rfl) rfl rfl (fun w' _ => by simp [go_sem]) hS (by simp [go_sem]; exact rfl) ?_
        refine pick_op (i := 7) (v := .pointer (some ⟨b5, 3, none⟩)) (by kernel_rfl) rfl (by kernel_rfl) (by kernel_rfl) rfl rfl (fun w' _ => by simp [go_sem]) hS (by simp [go_sem]; exact rfl) ?_
        refine pick_op (i := 8) (v := .int .i64 c) (by kernel_rfl) rfl (by kernel_rfl) (by kernel_rfl) rfl rfl (fun w' h => by simp [go_sem, h.1]) hS (by simp [go_sem]; exact rfl) ?_
        refine pick_op (i := 9) (v := .agg #[.int .i64 n, .int .i64 v, .int .i64 p]) (by kernel_rfl) rfl (by kernel_rfl) (by kernel_rfl) rfl rfl (fun w' h => by simp [go_sem, h.2.1, h.2.2.1, h.2.2.2]) hS (by simp [go_sem]; exact rfl) ?_
        refine pick_enter (i := 10) (f := 66) (args := #[.agg #[.int .i64 n, .int .i64 v, .int .i64 p], .int .i64 0, .int .i64 1]) rfl (by kernel_rfl) rfl rfl (by simp [go_sem]) ?_
        refine (more_calls n v p (0) (1) _ (by have := HM.out; rw [wrap64]; omega) (by have := HM.out; rw [wrap64]; omega)).mono ?_
        rintro e X4 ⟨rfl, hbx⟩
        have HX4 := hid (HD.out.trans (hbx.mono HD.out.size))
        clear hbx hS
        have hS := HCl.out _ HX4.out
        refine ⟨_, rfl, hS, ?_⟩
        refine pick_frame (by simp [go_sem]; exact rfl) ?_
        refine pick_op (i := 11) (v := .agg #[.int .i64 c, .int .i64 (n + 0), .int .i64 (v + 1), .int .i64 p]) (by kernel_rfl) rfl (by kernel_rfl) (by kernel_rfl) rfl rfl (fun w' _ => by simp [go_sem]) hS (by simp [go_sem]; exact rfl) ?_
        have hAX5 := (MapKept.heap_alloc X4 (.cells #[.int .i64 ((k : Int) + 1), .int .i64 n, .int .i64 0, .int .i64 3, .int .i64 c, .int .i64 (n + 0), .int .i64 (v + 1), .int .i64 p] 67)).1
        have HBX5 : Hid (Below wr.heap.size wr (X4.alloc (.cells #[.int .i64 ((k : Int) + 1), .int .i64 n, .int .i64 0, .int .i64 3, .int .i64 c, .int .i64 (n + 0), .int .i64 (v + 1), .int .i64 p] 67))) := HX4.out.alloc HX4.out.size _
        refine pick_make (i := 12) (v := .slice (some ⟨X4.heap.size, 0, none⟩) 2 2) (w1 := X4.alloc (.cells #[.int .i64 ((k : Int) + 1), .int .i64 n, .int .i64 0, .int .i64 3, .int .i64 c, .int .i64 (n + 0), .int .i64 (v + 1), .int .i64 p] 67)) rfl (by kernel_rfl) rfl rfl (by simp [go_sem]) (HCl.out _ HBX5.out) (by simp [go_sem]; exact rfl) ?_
        have HLc := hid (lit_cells X4 [.int .i64 ((k : Int) + 1), .int .i64 n, .int .i64 0, .int .i64 3, .int .i64 c, .int .i64 (n + 0), .int .i64 (v + 1), .int .i64 p] 67)
        have HRb := hid (HRr.out.below HBX5.out)
        obtain ⟨X5, hX5⟩ : ∃ X, X4.alloc (.cells #[.int .i64 ((k : Int) + 1), .int .i64 n, .int .i64 0, .int .i64 3, .int .i64 c, .int .i64 (n + 0), .int .i64 (v + 1), .int .i64 p] 67) = X := ⟨_, rfl⟩
        have HLc2 : Hid (∀ j u, [.int .i64 ((k : Int) + 1), .int .i64 n, .int .i64 0, .int .i64 3, .int .i64 c, .int .i64 (n + 0), .int .i64 (v + 1), .int .i64 p][j]? = some u → X5.cell? ((⟨X4.heap.size, 0, none⟩ : Addr).add j) = some u) := by
          rw [← hX5]
          exact HLc.out
        rw [hX5] at HRb HBX5 ⊢
        clear hX5 hAX5 HLc
        obtain ⟨i0, hi, hz0, hz1, hz2⟩ := info_parts info_exit
        obtain ⟨va2, X6, hrun, hown, hgrow, -, hat2⟩ := run_append_own_at (P := Tryz.prog) X5 W.heap.size 95 95 67 i0 _ 4 32 Tryz.underlying95 hi hz0 hz1 hz2 rfl (by decide) u7 (((ta, (⟨n + 1, 0, 2⟩ : Sq)) :: ((clausesZ is (ka : Int)).take j).map (fun c => (c.b, (⟨n + 2, 0, 2⟩ : Sq)))).length) (rowE ((ta, (⟨n + 1, 0, 2⟩ : Sq)) :: ((clausesZ is (ka : Int)).take j).map (fun c => (c.b, (⟨n + 2, 0, 2⟩ : Sq))))) HRb.out.row ⟨X4.heap.size, 0, none⟩ 2 2 [.int .i64 ((k : Int) + 1), .int .i64 n, .int .i64 0, .int .i64 3, .int .i64 c, .int .i64 (n + 0), .int .i64 (v + 1), .int .i64 p] rfl HLc2.out (fun u hu => by
          simp only [List.mem_cons, List.not_mem_nil, or_false] at hu
          rcases hu with rfl | rfl | rfl | rfl | rfl | rfl | rfl | rfl <;> rfl) (by unfold maxLen; have := HEl.out; omega) (by have := HEl.out; omega) HRb.out.bx.bel.size
        have HR6 := hid (HRb.out.more (es' := [((k : Int) + 1, ⟨n, 0, 3⟩), (c, ⟨n + 0, v + 1, p⟩)]) (Below.refl _ _) hown hgrow)
        obtain ⟨av, ln, cv, hva⟩ : ∃ av ln cv, va2 = .slice av ln cv := by
          obtain ⟨a', c', h'⟩ := fl_slice HR6.out.row
          exact ⟨a', _, c', h'⟩
        subst hva
        have i36 := cell_of_heap HR6.out.bx.i 3
        have s06 := cell_of_heap HR6.out.bx.s 0
        have s16 := cell_of_heap HR6.out.bx.s 1
        have s26 := cell_of_heap HR6.out.bx.s 2
        simp at i36 s06 s16 s26
        have hS6 : (fun w' : World => w'.cell? ⟨b5, 3, none⟩ = some (.int .i64 c) ∧ w'.cell? ⟨b6, 0, none⟩ = some (.int .i64 n) ∧ w'.cell? ⟨b6, 1, none⟩ = some (.int .i64 v) ∧ w'.cell? ⟨b6, 2, none⟩ = some (.int .i64 p)) X6 := ⟨i36, s06, s16, s26⟩
        clear i36 s06 s16 s26
        refine pick_make (i := 13) (v := .slice av ln cv) (w1 := X6) rfl (by kernel_rfl) rfl rfl (append_run (s := .tmp 59) (x := .tmp 71) (t := 95) rfl rfl rfl hrun) hS6 (by simp [go_sem]; exact rfl) ?_
        refine pick_make (i := 14) (v := .slice av ln cv) (w1 := X6) rfl (by kernel_rfl) rfl rfl (by simp [go_sem]) hS6 (by simp [go_sem]; exact rfl) ?_
        refine pick_end (by kernel_rfl) ?_
        clear hrun hown hgrow hat2 hi hz0 hz1 hz2 hS6 hS
        go_wp2_with fail
        go_ret
        rw [HZ.out, ← HEs.out]
        exact exits_owns HR6.out.bx.bel HR6.out.row
end Go.Proofs.YtfmkgppkgmjpfaaGreatDoor
