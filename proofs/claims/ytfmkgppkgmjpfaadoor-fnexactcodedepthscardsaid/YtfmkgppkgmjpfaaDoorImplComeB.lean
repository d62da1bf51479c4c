/- The program comes to a place: where it is wrong, or known already; and all ways. -/
import Derived.Test.YtfmkgppkgmjpfaaDoorImplCome
namespace Go.Proofs.YtfmkgppkgmjpfaaDoor
open Go.RowKit Go.Conc

def BadP (W : World) (e : Ending) (W' : World) : Prop := IsBad e ∧ Below W.heap.size W W'

def SameP (W : World) (e : Ending) (W' : World) : Prop := e = .returned .nilIface ∧ Below W.heap.size W W'

theorem badP {W X : World} {o : Obj} (hb : Below W.heap.size W X) : BadP W (.returned (.iface 55 (.pointer (some ⟨X.heap.size, 0, none⟩)))) (X.alloc o) := ⟨⟨X.heap.size, rfl⟩, hb.alloc hb.size o⟩

set_option maxRecDepth 100000 in
set_option maxHeartbeats 8000000 in
theorem comeI_out {W0 : World} {Fb : Nat} {ac : Option Addr} {cc gs ch N : Nat} {T : List Sq} {wk : List Nat} {d : Int} {W : World} (h : Fl W0 Fb (.slice ac N cc) gs ch N T wk d false W) (tt n v p : Int) (hto : (N : Int) ≤ tt) :
    Calls Tryd.prog 25 #[.pointer (some ⟨Fb, 0, none⟩), .agg #[.int .i64 tt, .int .i64 n, .int .i64 v, .int .i64 p]] W (BadP W) := by
  have hV1 := (MapKept.heap_alloc W (.cells #[.int .i64 tt, .int .i64 n, .int .i64 v, .int .i64 p] 64)).1
  have hVb := (Below.refl W.heap.size W).alloc (Nat.le_refl _) (.cells #[.int .i64 tt, .int .i64 n, .int .i64 v, .int .i64 p] 64)
  obtain ⟨V, hV⟩ : ∃ V, W.alloc (.cells #[.int .i64 tt, .int .i64 n, .int .i64 v, .int .i64 p] 64) = V := ⟨_, rfl⟩
  rw [hV] at hV1 hVb
  have h1 := h.below hVb
  have hEl := heap_lt hV1
  have hFl := heap_lt h1.blk
  obtain ⟨Eb, hEb⟩ : ∃ Eb, W.heap.size = Eb := ⟨_, rfl⟩
  rw [hEb] at hV1 hEl
  have e0 := cell_of_heap hV1 0
  have f0 := cell_of_heap h1.blk 0
  simp at e0 f0
  have pe0 : ∀ y : Later V.heap.size V, y.w.cell? ⟨Eb, 0, none⟩ = _ := fun y => y.cell hEl e0
  have pf0 : ∀ y : Later V.heap.size V, y.w.cell? ⟨Fb, 0, none⟩ = _ := fun y => y.cell hFl f0
  have HV := hid hV
  have HEb := hid hEb
  have HV1 := hid hV1
  have H1 := hid h1
  have HW := hid hVb
  have q1 : decide ((N : Int) ≤ tt) = true := decide_eq_true hto
  clear h hV hV1 hVb h1 e0 f0 hto
  refine calls_of_wpN Tryd.func25 rfl ?_
  simp only [Tryd.ntmps25, List.size_toArray, List.length_cons, List.length_nil, Nat.reduceAdd, Nat.reduceSub, Array.replicate_succ, Array.replicate_zero, List.push_toArray, List.append_toArray, List.nil_append, List.cons_append]
  refine wpN_seq_k fun K hK => ?_
  go_wp2_with fail
  rw [HV.out]
  clear hEb
  refine wpN_seq_k fun K hK => ?_
  go_wp2_with fail
  refine wp_region_calm V.heap.size (by kernel_rfl) (by kernel_rfl) ?_
  repeat (go_big_quiet_step (fail))
  refine wpQuiet_nil ?_
  rintro w5 ⟨y, rfl⟩
  have HY1 := hid y.h
  clear pe0 pf0
  have hf1 := (y.h.block Eb hEl).trans HV1.out
  generalize y.w = X1 at *
  have e0 := cell_of_heap hf1 0
  have e1 := cell_of_heap hf1 1
  have e2 := cell_of_heap hf1 2
  simp at e0 e1 e2
  have HB1 := hid (HW.out.trans (HY1.out.mono HW.out.size))
  go_wp2_with fail
  go_ret
  exact badP HB1.out

set_option maxRecDepth 100000 in
set_option maxHeartbeats 8000000 in
theorem comeI_many {W0 : World} {Fb : Nat} {ac : Option Addr} {cc gs ch N : Nat} {T : List Sq} {wk : List Nat} {d : Int} {W : World} (h : Fl W0 Fb (.slice ac N cc) gs ch N T wk d false W) (k : Nat) (n v p : Int) (hk : k < N) (hm : 100 < n ∨ 100 < v) :
    Calls Tryd.prog 25 #[.pointer (some ⟨Fb, 0, none⟩), .agg #[.int .i64 (k : Int), .int .i64 n, .int .i64 v, .int .i64 p]] W (BadP W) := by
  have hV1 := (MapKept.heap_alloc W (.cells #[.int .i64 (k : Int), .int .i64 n, .int .i64 v, .int .i64 p] 64)).1
  have hVb := (Below.refl W.heap.size W).alloc (Nat.le_refl _) (.cells #[.int .i64 (k : Int), .int .i64 n, .int .i64 v, .int .i64 p] 64)
  obtain ⟨V, hV⟩ : ∃ V, W.alloc (.cells #[.int .i64 (k : Int), .int .i64 n, .int .i64 v, .int .i64 p] 64) = V := ⟨_, rfl⟩
  rw [hV] at hV1 hVb
  have h1 := h.below hVb
  have hEl := heap_lt hV1
  have hFl := heap_lt h1.blk
  obtain ⟨Eb, hEb⟩ : ∃ Eb, W.heap.size = Eb := ⟨_, rfl⟩
  rw [hEb] at hV1 hEl
  have e0 := cell_of_heap hV1 0
  have f0 := cell_of_heap h1.blk 0
  simp at e0 f0
  have pe0 : ∀ y : Later V.heap.size V, y.w.cell? ⟨Eb, 0, none⟩ = _ := fun y => y.cell hEl e0
  have pf0 : ∀ y : Later V.heap.size V, y.w.cell? ⟨Fb, 0, none⟩ = _ := fun y => y.cell hFl f0
  have HV := hid hV
  have HEb := hid hEb
  have HV1 := hid hV1
  have H1 := hid h1
  have HW := hid hVb
  have q1 : decide ((N : Int) ≤ (k : Int)) = false := decide_eq_false (by omega)
  have q1n : decide (N ≤ k) = false := decide_eq_false (by omega)
  clear h hV hV1 hVb h1 e0 f0 hk
  refine calls_of_wpN Tryd.func25 rfl ?_
  simp only [Tryd.ntmps25, List.size_toArray, List.length_cons, List.length_nil, Nat.reduceAdd, Nat.reduceSub, Array.replicate_succ, Array.replicate_zero, List.push_toArray, List.append_toArray, List.nil_append, List.cons_append]
  refine wpN_seq_k fun K hK => ?_
  go_wp2_with fail
  rw [HV.out]
  clear hEb
  refine wpN_seq_k fun K hK => ?_
  go_wp2_with fail
  refine wp_region_calm V.heap.size (by kernel_rfl) (by kernel_rfl) ?_
  repeat (go_big_quiet_step (fail))
  refine wpQuiet_nil ?_
  rintro w5 ⟨y, rfl⟩
  have HY1 := hid y.h
  clear pe0 pf0
  have hf1 := (y.h.block Eb hEl).trans HV1.out
  generalize y.w = X1 at *
  have e0 := cell_of_heap hf1 0
  have e1 := cell_of_heap hf1 1
  have e2 := cell_of_heap hf1 2
  simp at e0 e1 e2
  have HB1 := hid (HW.out.trans (HY1.out.mono HW.out.size))
  by_cases h5 : 100 < n
  · clear hm
    go_wp2_with fail
    go_ret
    exact badP HB1.out
  · have h6 : 100 < v := by omega
    clear hm
    go_wp2_with fail
    go_ret
    exact badP HB1.out

set_option maxRecDepth 100000 in
set_option maxHeartbeats 8000000 in
theorem comeI_same {W0 : World} {Fb : Nat} {ac : Option Addr} {cc gs ch N : Nat} {T : List Sq} {wk : List Nat} {d : Int} {W : World} (h : Fl W0 Fb (.slice ac N cc) gs ch N T wk d false W) (k : Nat) (n v p : Int) (hk : k < N) (hn1 : n ≤ 100) (hv1 : v ≤ 100) (ht : tg T k = ⟨n, v, p⟩) :
    Calls Tryd.prog 25 #[.pointer (some ⟨Fb, 0, none⟩), .agg #[.int .i64 (k : Int), .int .i64 n, .int .i64 v, .int .i64 p]] W (SameP W) := by
  have hV1 := (MapKept.heap_alloc W (.cells #[.int .i64 (k : Int), .int .i64 n, .int .i64 v, .int .i64 p] 64)).1
  have hVb := (Below.refl W.heap.size W).alloc (Nat.le_refl _) (.cells #[.int .i64 (k : Int), .int .i64 n, .int .i64 v, .int .i64 p] 64)
  obtain ⟨V, hV⟩ : ∃ V, W.alloc (.cells #[.int .i64 (k : Int), .int .i64 n, .int .i64 v, .int .i64 p] 64) = V := ⟨_, rfl⟩
  rw [hV] at hV1 hVb
  have h1 := h.below hVb
  have hEl := heap_lt hV1
  have hFl := heap_lt h1.blk
  obtain ⟨Eb, hEb⟩ : ∃ Eb, W.heap.size = Eb := ⟨_, rfl⟩
  rw [hEb] at hV1 hEl
  have e0 := cell_of_heap hV1 0
  have f0 := cell_of_heap h1.blk 0
  simp at e0 f0
  have pe0 : ∀ y : Later V.heap.size V, y.w.cell? ⟨Eb, 0, none⟩ = _ := fun y => y.cell hEl e0
  have pf0 : ∀ y : Later V.heap.size V, y.w.cell? ⟨Fb, 0, none⟩ = _ := fun y => y.cell hFl f0
  have HV := hid hV
  have HEb := hid hEb
  have HV1 := hid hV1
  have H1 := hid h1
  have HW := hid hVb
  have q1 : decide ((N : Int) ≤ (k : Int)) = false := decide_eq_false (by omega)
  have q1n : decide (N ≤ k) = false := decide_eq_false (by omega)
  have q2 : ¬ 100 < n := by omega
  have q3 : ¬ 100 < v := by omega
  have k0 : (0 : Int) ≤ (k : Int) := by omega
  have k1 : (k : Int) < (N : Int) := by omega
  have HKn := hid hk
  have HT := hid ht
  clear h hV hV1 hVb h1 e0 f0 hk ht hn1 hv1
  refine calls_of_wpN Tryd.func25 rfl ?_
  simp only [Tryd.ntmps25, List.size_toArray, List.length_cons, List.length_nil, Nat.reduceAdd, Nat.reduceSub, Array.replicate_succ, Array.replicate_zero, List.push_toArray, List.append_toArray, List.nil_append, List.cons_append]
  refine wpN_seq_k fun K hK => ?_
  go_wp2_with fail
  rw [HV.out]
  clear hEb
  refine wpN_seq_k fun K hK => ?_
  go_wp2_with fail
  refine wp_region_calm V.heap.size (by kernel_rfl) (by kernel_rfl) ?_
  repeat (go_big_quiet_step (fail))
  refine wpQuiet_nil ?_
  rintro w5 ⟨y, rfl⟩
  have HY1 := hid y.h
  clear pe0 pf0
  have hf1 := (y.h.block Eb hEl).trans HV1.out
  generalize y.w = X1 at *
  have e0 := cell_of_heap hf1 0
  have e1 := cell_of_heap hf1 1
  have e2 := cell_of_heap hf1 2
  simp at e0 e1 e2
  have HB1 := hid (HW.out.trans (HY1.out.mono HW.out.size))
  go_wp2_with fail
  clear e0 e1 e2
  have HX1 := hid (H1.out.below HY1.out)
  have hBX1 := heap_lt HX1.out.blk
  have hGX1 := HX1.out.row.lt
  have hEX1 := heap_lt hf1
  have cX1 := HX1.out.cells HKn.out
  rw [HT.out] at cX1
  obtain ⟨c0, c1, c2, -, -, -⟩ := cX1
  dsimp only at c0 c1 c2
  have f1 := cell_of_heap HX1.out.blk 1
  have e0 := cell_of_heap hf1 0
  have e1 := cell_of_heap hf1 1
  have e2 := cell_of_heap hf1 2
  have e3 := cell_of_heap hf1 3
  simp at f1 e0 e1 e2 e3
  have pe0 : ∀ y : Later X1.heap.size X1, y.w.cell? ⟨Eb, 0, none⟩ = _ := fun y => y.cell hEX1 e0
  have pe1 : ∀ y : Later X1.heap.size X1, y.w.cell? ⟨Eb, 1, none⟩ = _ := fun y => y.cell hEX1 e1
  have pe2 : ∀ y : Later X1.heap.size X1, y.w.cell? ⟨Eb, 2, none⟩ = _ := fun y => y.cell hEX1 e2
  have pe3 : ∀ y : Later X1.heap.size X1, y.w.cell? ⟨Eb, 3, none⟩ = _ := fun y => y.cell hEX1 e3
  have pf1 : ∀ y : Later X1.heap.size X1, y.w.cell? ⟨Fb, 1, none⟩ = _ := fun y => y.cell hBX1 f1
  have pc0 : ∀ y : Later X1.heap.size X1, y.w.cell? ⟨gs, k * 3, none⟩ = _ := fun y => y.cell hGX1 c0
  have pc1 : ∀ y : Later X1.heap.size X1, y.w.cell? ⟨gs, k * 3 + 1, none⟩ = _ := fun y => y.cell hGX1 c1
  have pc2 : ∀ y : Later X1.heap.size X1, y.w.cell? ⟨gs, k * 3 + 2, none⟩ = _ := fun y => y.cell hGX1 c2
  refine wp_region_calm X1.heap.size (by kernel_rfl) (by kernel_rfl) ?_
  repeat (go_big_quiet_step (fail))
  refine wpQuiet_nil ?_
  rintro w5 ⟨y, rfl⟩
  have HYX2 := hid y.h
  have hfX2 := (y.h.block Eb hEX1).trans hf1
  generalize y.w = X2 at *
  clear pe0 pe1 pe2 pe3 pf1 pc0 pc1 pc2 c0 c1 c2 f1 e0 e1 e2 e3
  go_wp2_with fail
  go_ret
  exact ⟨rfl, HB1.out.trans (HYX2.out.mono HB1.out.size)⟩

set_option maxRecDepth 100000 in
set_option maxHeartbeats 8000000 in
theorem comeI_otherN {W0 : World} {Fb : Nat} {ac : Option Addr} {cc gs ch N : Nat} {T : List Sq} {wk : List Nat} {d : Int} {W : World} (h : Fl W0 Fb (.slice ac N cc) gs ch N T wk d false W) (k : Nat) (n v p x y z : Int) (hk : k < N) (hn1 : n ≤ 100) (hv1 : v ≤ 100) (ht : tg T k = ⟨x, y, z⟩) (hz : z ≠ 0) (hc : x ≠ n) :
    Calls Tryd.prog 25 #[.pointer (some ⟨Fb, 0, none⟩), .agg #[.int .i64 (k : Int), .int .i64 n, .int .i64 v, .int .i64 p]] W (BadP W) := by
  have hV1 := (MapKept.heap_alloc W (.cells #[.int .i64 (k : Int), .int .i64 n, .int .i64 v, .int .i64 p] 64)).1
  have hVb := (Below.refl W.heap.size W).alloc (Nat.le_refl _) (.cells #[.int .i64 (k : Int), .int .i64 n, .int .i64 v, .int .i64 p] 64)
  obtain ⟨V, hV⟩ : ∃ V, W.alloc (.cells #[.int .i64 (k : Int), .int .i64 n, .int .i64 v, .int .i64 p] 64) = V := ⟨_, rfl⟩
  rw [hV] at hV1 hVb
  have h1 := h.below hVb
  have hEl := heap_lt hV1
  have hFl := heap_lt h1.blk
  obtain ⟨Eb, hEb⟩ : ∃ Eb, W.heap.size = Eb := ⟨_, rfl⟩
  rw [hEb] at hV1 hEl
  have e0 := cell_of_heap hV1 0
  have f0 := cell_of_heap h1.blk 0
  simp at e0 f0
  have pe0 : ∀ y : Later V.heap.size V, y.w.cell? ⟨Eb, 0, none⟩ = _ := fun y => y.cell hEl e0
  have pf0 : ∀ y : Later V.heap.size V, y.w.cell? ⟨Fb, 0, none⟩ = _ := fun y => y.cell hFl f0
  have HV := hid hV
  have HEb := hid hEb
  have HV1 := hid hV1
  have H1 := hid h1
  have HW := hid hVb
  have q1 : decide ((N : Int) ≤ (k : Int)) = false := decide_eq_false (by omega)
  have q1n : decide (N ≤ k) = false := decide_eq_false (by omega)
  have q2 : ¬ 100 < n := by omega
  have q3 : ¬ 100 < v := by omega
  have k0 : (0 : Int) ≤ (k : Int) := by omega
  have k1 : (k : Int) < (N : Int) := by omega
  have HKn := hid hk
  have HT := hid ht
  have g1 : (x == n) = false := by simp [hc]
  have z1 : (z != 0) = true := by simp [hz]
  clear h hV hV1 hVb h1 e0 f0 hk ht hn1 hv1 hz hc
  refine calls_of_wpN Tryd.func25 rfl ?_
  simp only [Tryd.ntmps25, List.size_toArray, List.length_cons, List.length_nil, Nat.reduceAdd, Nat.reduceSub, Array.replicate_succ, Array.replicate_zero, List.push_toArray, List.append_toArray, List.nil_append, List.cons_append]
  refine wpN_seq_k fun K hK => ?_
  go_wp2_with fail
  rw [HV.out]
  clear hEb
  refine wpN_seq_k fun K hK => ?_
  go_wp2_with fail
  refine wp_region_calm V.heap.size (by kernel_rfl) (by kernel_rfl) ?_
  repeat (go_big_quiet_step (fail))
  refine wpQuiet_nil ?_
  rintro w5 ⟨y, rfl⟩
  have HY1 := hid y.h
  clear pe0 pf0
  have hf1 := (y.h.block Eb hEl).trans HV1.out
  generalize y.w = X1 at *
  have e0 := cell_of_heap hf1 0
  have e1 := cell_of_heap hf1 1
  have e2 := cell_of_heap hf1 2
  simp at e0 e1 e2
  have HB1 := hid (HW.out.trans (HY1.out.mono HW.out.size))
  go_wp2_with fail
  clear e0 e1 e2
  have HX1 := hid (H1.out.below HY1.out)
  have hBX1 := heap_lt HX1.out.blk
  have hGX1 := HX1.out.row.lt
  have hEX1 := heap_lt hf1
  have cX1 := HX1.out.cells HKn.out
  rw [HT.out] at cX1
  obtain ⟨c0, c1, c2, -, -, -⟩ := cX1
  dsimp only at c0 c1 c2
  have f1 := cell_of_heap HX1.out.blk 1
  have e0 := cell_of_heap hf1 0
  have e1 := cell_of_heap hf1 1
  have e2 := cell_of_heap hf1 2
  have e3 := cell_of_heap hf1 3
  simp at f1 e0 e1 e2 e3
  have pe0 : ∀ y : Later X1.heap.size X1, y.w.cell? ⟨Eb, 0, none⟩ = _ := fun y => y.cell hEX1 e0
  have pe1 : ∀ y : Later X1.heap.size X1, y.w.cell? ⟨Eb, 1, none⟩ = _ := fun y => y.cell hEX1 e1
  have pe2 : ∀ y : Later X1.heap.size X1, y.w.cell? ⟨Eb, 2, none⟩ = _ := fun y => y.cell hEX1 e2
  have pe3 : ∀ y : Later X1.heap.size X1, y.w.cell? ⟨Eb, 3, none⟩ = _ := fun y => y.cell hEX1 e3
  have pf1 : ∀ y : Later X1.heap.size X1, y.w.cell? ⟨Fb, 1, none⟩ = _ := fun y => y.cell hBX1 f1
  have pc0 : ∀ y : Later X1.heap.size X1, y.w.cell? ⟨gs, k * 3, none⟩ = _ := fun y => y.cell hGX1 c0
  have pc1 : ∀ y : Later X1.heap.size X1, y.w.cell? ⟨gs, k * 3 + 1, none⟩ = _ := fun y => y.cell hGX1 c1
  have pc2 : ∀ y : Later X1.heap.size X1, y.w.cell? ⟨gs, k * 3 + 2, none⟩ = _ := fun y => y.cell hGX1 c2
  refine wp_region_calm X1.heap.size (by kernel_rfl) (by kernel_rfl) ?_
  repeat (go_big_quiet_step (fail))
  refine wpQuiet_nil ?_
  rintro w5 ⟨y, rfl⟩
  have HYX2 := hid y.h
  have hfX2 := (y.h.block Eb hEX1).trans hf1
  generalize y.w = X2 at *
  clear pe0 pe1 pe2 pe3 pf1 pc0 pc1 pc2 c0 c1 c2 f1 e0 e1 e2 e3
  go_wp2_with fail
  have HX2 := hid (HX1.out.below HYX2.out)
  have hBX2 := heap_lt HX2.out.blk
  have hGX2 := HX2.out.row.lt
  have hEX2 := heap_lt hfX2
  have cX2 := HX2.out.cells HKn.out
  rw [HT.out] at cX2
  obtain ⟨c0, c1, c2, -, -, -⟩ := cX2
  dsimp only at c0 c1 c2
  have f1 := cell_of_heap HX2.out.blk 1
  have e0 := cell_of_heap hfX2 0
  have e1 := cell_of_heap hfX2 1
  have e2 := cell_of_heap hfX2 2
  have e3 := cell_of_heap hfX2 3
  simp at f1 e0 e1 e2 e3
  have pe0 : ∀ y : Later X2.heap.size X2, y.w.cell? ⟨Eb, 0, none⟩ = _ := fun y => y.cell hEX2 e0
  have pe1 : ∀ y : Later X2.heap.size X2, y.w.cell? ⟨Eb, 1, none⟩ = _ := fun y => y.cell hEX2 e1
  have pe2 : ∀ y : Later X2.heap.size X2, y.w.cell? ⟨Eb, 2, none⟩ = _ := fun y => y.cell hEX2 e2
  have pe3 : ∀ y : Later X2.heap.size X2, y.w.cell? ⟨Eb, 3, none⟩ = _ := fun y => y.cell hEX2 e3
  have pf1 : ∀ y : Later X2.heap.size X2, y.w.cell? ⟨Fb, 1, none⟩ = _ := fun y => y.cell hBX2 f1
  have pc0 : ∀ y : Later X2.heap.size X2, y.w.cell? ⟨gs, k * 3, none⟩ = _ := fun y => y.cell hGX2 c0
  have pc1 : ∀ y : Later X2.heap.size X2, y.w.cell? ⟨gs, k * 3 + 1, none⟩ = _ := fun y => y.cell hGX2 c1
  have pc2 : ∀ y : Later X2.heap.size X2, y.w.cell? ⟨gs, k * 3 + 2, none⟩ = _ := fun y => y.cell hGX2 c2
  refine wp_region_calm X2.heap.size (by kernel_rfl) (by kernel_rfl) ?_
  repeat (go_big_quiet_step (fail))
  refine wpQuiet_nil ?_
  rintro w5 ⟨y, rfl⟩
  have HYX3 := hid y.h
  have hfX3 := (y.h.block Eb hEX2).trans hfX2
  generalize y.w = X3 at *
  clear pe0 pe1 pe2 pe3 pf1 pc0 pc1 pc2 c0 c1 c2 f1 e0 e1 e2 e3
  have e0 := cell_of_heap hfX3 0
  simp at e0
  go_wp2_with fail
  go_ret
  exact badP ((HB1.out.trans (HYX2.out.mono HB1.out.size)).trans (HYX3.out.mono (Nat.le_trans HB1.out.size HYX2.out.size)))

set_option maxRecDepth 100000 in
set_option maxHeartbeats 8000000 in
theorem comeI_otherV {W0 : World} {Fb : Nat} {ac : Option Addr} {cc gs ch N : Nat} {T : List Sq} {wk : List Nat} {d : Int} {W : World} (h : Fl W0 Fb (.slice ac N cc) gs ch N T wk d false W) (k : Nat) (n v p x y z : Int) (hk : k < N) (hn1 : n ≤ 100) (hv1 : v ≤ 100) (ht : tg T k = ⟨x, y, z⟩) (hz : z ≠ 0) (hc : y ≠ v) :
    Calls Tryd.prog 25 #[.pointer (some ⟨Fb, 0, none⟩), .agg #[.int .i64 (k : Int), .int .i64 n, .int .i64 v, .int .i64 p]] W (BadP W) := by
  have hV1 := (MapKept.heap_alloc W (.cells #[.int .i64 (k : Int), .int .i64 n, .int .i64 v, .int .i64 p] 64)).1
  have hVb := (Below.refl W.heap.size W).alloc (Nat.le_refl _) (.cells #[.int .i64 (k : Int), .int .i64 n, .int .i64 v, .int .i64 p] 64)
  obtain ⟨V, hV⟩ : ∃ V, W.alloc (.cells #[.int .i64 (k : Int), .int .i64 n, .int .i64 v, .int .i64 p] 64) = V := ⟨_, rfl⟩
  rw [hV] at hV1 hVb
  have h1 := h.below hVb
  have hEl := heap_lt hV1
  have hFl := heap_lt h1.blk
  obtain ⟨Eb, hEb⟩ : ∃ Eb, W.heap.size = Eb := ⟨_, rfl⟩
  rw [hEb] at hV1 hEl
  have e0 := cell_of_heap hV1 0
  have f0 := cell_of_heap h1.blk 0
  simp at e0 f0
  have pe0 : ∀ y : Later V.heap.size V, y.w.cell? ⟨Eb, 0, none⟩ = _ := fun y => y.cell hEl e0
  have pf0 : ∀ y : Later V.heap.size V, y.w.cell? ⟨Fb, 0, none⟩ = _ := fun y => y.cell hFl f0
  have HV := hid hV
  have HEb := hid hEb
  have HV1 := hid hV1
  have H1 := hid h1
  have HW := hid hVb
  have q1 : decide ((N : Int) ≤ (k : Int)) = false := decide_eq_false (by omega)
  have q1n : decide (N ≤ k) = false := decide_eq_false (by omega)
  have q2 : ¬ 100 < n := by omega
  have q3 : ¬ 100 < v := by omega
  have k0 : (0 : Int) ≤ (k : Int) := by omega
  have k1 : (k : Int) < (N : Int) := by omega
  have HKn := hid hk
  have HT := hid ht
  have g1 : (y == v) = false := by simp [hc]
  have z1 : (z != 0) = true := by simp [hz]
  clear h hV hV1 hVb h1 e0 f0 hk ht hn1 hv1 hz hc
  refine calls_of_wpN Tryd.func25 rfl ?_
  simp only [Tryd.ntmps25, List.size_toArray, List.length_cons, List.length_nil, Nat.reduceAdd, Nat.reduceSub, Array.replicate_succ, Array.replicate_zero, List.push_toArray, List.append_toArray, List.nil_append, List.cons_append]
  refine wpN_seq_k fun K hK => ?_
  go_wp2_with fail
  rw [HV.out]
  clear hEb
  refine wpN_seq_k fun K hK => ?_
  go_wp2_with fail
  refine wp_region_calm V.heap.size (by kernel_rfl) (by kernel_rfl) ?_
  repeat (go_big_quiet_step (fail))
  refine wpQuiet_nil ?_
  rintro w5 ⟨y, rfl⟩
  have HY1 := hid y.h
  clear pe0 pf0
  have hf1 := (y.h.block Eb hEl).trans HV1.out
  generalize y.w = X1 at *
  have e0 := cell_of_heap hf1 0
  have e1 := cell_of_heap hf1 1
  have e2 := cell_of_heap hf1 2
  simp at e0 e1 e2
  have HB1 := hid (HW.out.trans (HY1.out.mono HW.out.size))
  go_wp2_with fail
  clear e0 e1 e2
  have HX1 := hid (H1.out.below HY1.out)
  have hBX1 := heap_lt HX1.out.blk
  have hGX1 := HX1.out.row.lt
  have hEX1 := heap_lt hf1
  have cX1 := HX1.out.cells HKn.out
  rw [HT.out] at cX1
  obtain ⟨c0, c1, c2, -, -, -⟩ := cX1
  dsimp only at c0 c1 c2
  have f1 := cell_of_heap HX1.out.blk 1
  have e0 := cell_of_heap hf1 0
  have e1 := cell_of_heap hf1 1
  have e2 := cell_of_heap hf1 2
  have e3 := cell_of_heap hf1 3
  simp at f1 e0 e1 e2 e3
  have pe0 : ∀ y : Later X1.heap.size X1, y.w.cell? ⟨Eb, 0, none⟩ = _ := fun y => y.cell hEX1 e0
  have pe1 : ∀ y : Later X1.heap.size X1, y.w.cell? ⟨Eb, 1, none⟩ = _ := fun y => y.cell hEX1 e1
  have pe2 : ∀ y : Later X1.heap.size X1, y.w.cell? ⟨Eb, 2, none⟩ = _ := fun y => y.cell hEX1 e2
  have pe3 : ∀ y : Later X1.heap.size X1, y.w.cell? ⟨Eb, 3, none⟩ = _ := fun y => y.cell hEX1 e3
  have pf1 : ∀ y : Later X1.heap.size X1, y.w.cell? ⟨Fb, 1, none⟩ = _ := fun y => y.cell hBX1 f1
  have pc0 : ∀ y : Later X1.heap.size X1, y.w.cell? ⟨gs, k * 3, none⟩ = _ := fun y => y.cell hGX1 c0
  have pc1 : ∀ y : Later X1.heap.size X1, y.w.cell? ⟨gs, k * 3 + 1, none⟩ = _ := fun y => y.cell hGX1 c1
  have pc2 : ∀ y : Later X1.heap.size X1, y.w.cell? ⟨gs, k * 3 + 2, none⟩ = _ := fun y => y.cell hGX1 c2
  refine wp_region_calm X1.heap.size (by kernel_rfl) (by kernel_rfl) ?_
  repeat (go_big_quiet_step (fail))
  refine wpQuiet_nil ?_
  rintro w5 ⟨y, rfl⟩
  have HYX2 := hid y.h
  have hfX2 := (y.h.block Eb hEX1).trans hf1
  generalize y.w = X2 at *
  clear pe0 pe1 pe2 pe3 pf1 pc0 pc1 pc2 c0 c1 c2 f1 e0 e1 e2 e3
  go_wp2_with fail
  have HX2 := hid (HX1.out.below HYX2.out)
  have hBX2 := heap_lt HX2.out.blk
  have hGX2 := HX2.out.row.lt
  have hEX2 := heap_lt hfX2
  have cX2 := HX2.out.cells HKn.out
  rw [HT.out] at cX2
  obtain ⟨c0, c1, c2, -, -, -⟩ := cX2
  dsimp only at c0 c1 c2
  have f1 := cell_of_heap HX2.out.blk 1
  have e0 := cell_of_heap hfX2 0
  have e1 := cell_of_heap hfX2 1
  have e2 := cell_of_heap hfX2 2
  have e3 := cell_of_heap hfX2 3
  simp at f1 e0 e1 e2 e3
  have pe0 : ∀ y : Later X2.heap.size X2, y.w.cell? ⟨Eb, 0, none⟩ = _ := fun y => y.cell hEX2 e0
  have pe1 : ∀ y : Later X2.heap.size X2, y.w.cell? ⟨Eb, 1, none⟩ = _ := fun y => y.cell hEX2 e1
  have pe2 : ∀ y : Later X2.heap.size X2, y.w.cell? ⟨Eb, 2, none⟩ = _ := fun y => y.cell hEX2 e2
  have pe3 : ∀ y : Later X2.heap.size X2, y.w.cell? ⟨Eb, 3, none⟩ = _ := fun y => y.cell hEX2 e3
  have pf1 : ∀ y : Later X2.heap.size X2, y.w.cell? ⟨Fb, 1, none⟩ = _ := fun y => y.cell hBX2 f1
  have pc0 : ∀ y : Later X2.heap.size X2, y.w.cell? ⟨gs, k * 3, none⟩ = _ := fun y => y.cell hGX2 c0
  have pc1 : ∀ y : Later X2.heap.size X2, y.w.cell? ⟨gs, k * 3 + 1, none⟩ = _ := fun y => y.cell hGX2 c1
  have pc2 : ∀ y : Later X2.heap.size X2, y.w.cell? ⟨gs, k * 3 + 2, none⟩ = _ := fun y => y.cell hGX2 c2
  refine wp_region_calm X2.heap.size (by kernel_rfl) (by kernel_rfl) ?_
  repeat (go_big_quiet_step (fail))
  refine wpQuiet_nil ?_
  rintro w5 ⟨y, rfl⟩
  have HYX3 := hid y.h
  have hfX3 := (y.h.block Eb hEX2).trans hfX2
  generalize y.w = X3 at *
  clear pe0 pe1 pe2 pe3 pf1 pc0 pc1 pc2 c0 c1 c2 f1 e0 e1 e2 e3
  have e0 := cell_of_heap hfX3 0
  simp at e0
  go_wp2_with fail
  go_ret
  exact badP ((HB1.out.trans (HYX2.out.mono HB1.out.size)).trans (HYX3.out.mono (Nat.le_trans HB1.out.size HYX2.out.size)))

set_option maxRecDepth 100000 in
set_option maxHeartbeats 8000000 in
theorem comeI_otherP {W0 : World} {Fb : Nat} {ac : Option Addr} {cc gs ch N : Nat} {T : List Sq} {wk : List Nat} {d : Int} {W : World} (h : Fl W0 Fb (.slice ac N cc) gs ch N T wk d false W) (k : Nat) (n v p x y z : Int) (hk : k < N) (hn1 : n ≤ 100) (hv1 : v ≤ 100) (ht : tg T k = ⟨x, y, z⟩) (hz : z ≠ 0) (hc : z ≠ p) :
    Calls Tryd.prog 25 #[.pointer (some ⟨Fb, 0, none⟩), .agg #[.int .i64 (k : Int), .int .i64 n, .int .i64 v, .int .i64 p]] W (BadP W) := by
  have hV1 := (MapKept.heap_alloc W (.cells #[.int .i64 (k : Int), .int .i64 n, .int .i64 v, .int .i64 p] 64)).1
  have hVb := (Below.refl W.heap.size W).alloc (Nat.le_refl _) (.cells #[.int .i64 (k : Int), .int .i64 n, .int .i64 v, .int .i64 p] 64)
  obtain ⟨V, hV⟩ : ∃ V, W.alloc (.cells #[.int .i64 (k : Int), .int .i64 n, .int .i64 v, .int .i64 p] 64) = V := ⟨_, rfl⟩
  rw [hV] at hV1 hVb
  have h1 := h.below hVb
  have hEl := heap_lt hV1
  have hFl := heap_lt h1.blk
  obtain ⟨Eb, hEb⟩ : ∃ Eb, W.heap.size = Eb := ⟨_, rfl⟩
  rw [hEb] at hV1 hEl
  have e0 := cell_of_heap hV1 0
  have f0 := cell_of_heap h1.blk 0
  simp at e0 f0
  have pe0 : ∀ y : Later V.heap.size V, y.w.cell? ⟨Eb, 0, none⟩ = _ := fun y => y.cell hEl e0
  have pf0 : ∀ y : Later V.heap.size V, y.w.cell? ⟨Fb, 0, none⟩ = _ := fun y => y.cell hFl f0
  have HV := hid hV
  have HEb := hid hEb
  have HV1 := hid hV1
  have H1 := hid h1
  have HW := hid hVb
  have q1 : decide ((N : Int) ≤ (k : Int)) = false := decide_eq_false (by omega)
  have q1n : decide (N ≤ k) = false := decide_eq_false (by omega)
  have q2 : ¬ 100 < n := by omega
  have q3 : ¬ 100 < v := by omega
  have k0 : (0 : Int) ≤ (k : Int) := by omega
  have k1 : (k : Int) < (N : Int) := by omega
  have HKn := hid hk
  have HT := hid ht
  have g1 : (z == p) = false := by simp [hc]
  have z1 : (z != 0) = true := by simp [hz]
  clear h hV hV1 hVb h1 e0 f0 hk ht hn1 hv1 hz hc
  refine calls_of_wpN Tryd.func25 rfl ?_
  simp only [Tryd.ntmps25, List.size_toArray, List.length_cons, List.length_nil, Nat.reduceAdd, Nat.reduceSub, Array.replicate_succ, Array.replicate_zero, List.push_toArray, List.append_toArray, List.nil_append, List.cons_append]
  refine wpN_seq_k fun K hK => ?_
  go_wp2_with fail
  rw [HV.out]
  clear hEb
  refine wpN_seq_k fun K hK => ?_
  go_wp2_with fail
  refine wp_region_calm V.heap.size (by kernel_rfl) (by kernel_rfl) ?_
  repeat (go_big_quiet_step (fail))
  refine wpQuiet_nil ?_
  rintro w5 ⟨y, rfl⟩
  have HY1 := hid y.h
  clear pe0 pf0
  have hf1 := (y.h.block Eb hEl).trans HV1.out
  generalize y.w = X1 at *
  have e0 := cell_of_heap hf1 0
  have e1 := cell_of_heap hf1 1
  have e2 := cell_of_heap hf1 2
  simp at e0 e1 e2
  have HB1 := hid (HW.out.trans (HY1.out.mono HW.out.size))
  go_wp2_with fail
  clear e0 e1 e2
  have HX1 := hid (H1.out.below HY1.out)
  have hBX1 := heap_lt HX1.out.blk
  have hGX1 := HX1.out.row.lt
  have hEX1 := heap_lt hf1
  have cX1 := HX1.out.cells HKn.out
  rw [HT.out] at cX1
  obtain ⟨c0, c1, c2, -, -, -⟩ := cX1
  dsimp only at c0 c1 c2
  have f1 := cell_of_heap HX1.out.blk 1
  have e0 := cell_of_heap hf1 0
  have e1 := cell_of_heap hf1 1
  have e2 := cell_of_heap hf1 2
  have e3 := cell_of_heap hf1 3
  simp at f1 e0 e1 e2 e3
  have pe0 : ∀ y : Later X1.heap.size X1, y.w.cell? ⟨Eb, 0, none⟩ = _ := fun y => y.cell hEX1 e0
  have pe1 : ∀ y : Later X1.heap.size X1, y.w.cell? ⟨Eb, 1, none⟩ = _ := fun y => y.cell hEX1 e1
  have pe2 : ∀ y : Later X1.heap.size X1, y.w.cell? ⟨Eb, 2, none⟩ = _ := fun y => y.cell hEX1 e2
  have pe3 : ∀ y : Later X1.heap.size X1, y.w.cell? ⟨Eb, 3, none⟩ = _ := fun y => y.cell hEX1 e3
  have pf1 : ∀ y : Later X1.heap.size X1, y.w.cell? ⟨Fb, 1, none⟩ = _ := fun y => y.cell hBX1 f1
  have pc0 : ∀ y : Later X1.heap.size X1, y.w.cell? ⟨gs, k * 3, none⟩ = _ := fun y => y.cell hGX1 c0
  have pc1 : ∀ y : Later X1.heap.size X1, y.w.cell? ⟨gs, k * 3 + 1, none⟩ = _ := fun y => y.cell hGX1 c1
  have pc2 : ∀ y : Later X1.heap.size X1, y.w.cell? ⟨gs, k * 3 + 2, none⟩ = _ := fun y => y.cell hGX1 c2
  refine wp_region_calm X1.heap.size (by kernel_rfl) (by kernel_rfl) ?_
  repeat (go_big_quiet_step (fail))
  refine wpQuiet_nil ?_
  rintro w5 ⟨y, rfl⟩
  have HYX2 := hid y.h
  have hfX2 := (y.h.block Eb hEX1).trans hf1
  generalize y.w = X2 at *
  clear pe0 pe1 pe2 pe3 pf1 pc0 pc1 pc2 c0 c1 c2 f1 e0 e1 e2 e3
  go_wp2_with fail
  have HX2 := hid (HX1.out.below HYX2.out)
  have hBX2 := heap_lt HX2.out.blk
  have hGX2 := HX2.out.row.lt
  have hEX2 := heap_lt hfX2
  have cX2 := HX2.out.cells HKn.out
  rw [HT.out] at cX2
  obtain ⟨c0, c1, c2, -, -, -⟩ := cX2
  dsimp only at c0 c1 c2
  have f1 := cell_of_heap HX2.out.blk 1
  have e0 := cell_of_heap hfX2 0
  have e1 := cell_of_heap hfX2 1
  have e2 := cell_of_heap hfX2 2
  have e3 := cell_of_heap hfX2 3
  simp at f1 e0 e1 e2 e3
  have pe0 : ∀ y : Later X2.heap.size X2, y.w.cell? ⟨Eb, 0, none⟩ = _ := fun y => y.cell hEX2 e0
  have pe1 : ∀ y : Later X2.heap.size X2, y.w.cell? ⟨Eb, 1, none⟩ = _ := fun y => y.cell hEX2 e1
  have pe2 : ∀ y : Later X2.heap.size X2, y.w.cell? ⟨Eb, 2, none⟩ = _ := fun y => y.cell hEX2 e2
  have pe3 : ∀ y : Later X2.heap.size X2, y.w.cell? ⟨Eb, 3, none⟩ = _ := fun y => y.cell hEX2 e3
  have pf1 : ∀ y : Later X2.heap.size X2, y.w.cell? ⟨Fb, 1, none⟩ = _ := fun y => y.cell hBX2 f1
  have pc0 : ∀ y : Later X2.heap.size X2, y.w.cell? ⟨gs, k * 3, none⟩ = _ := fun y => y.cell hGX2 c0
  have pc1 : ∀ y : Later X2.heap.size X2, y.w.cell? ⟨gs, k * 3 + 1, none⟩ = _ := fun y => y.cell hGX2 c1
  have pc2 : ∀ y : Later X2.heap.size X2, y.w.cell? ⟨gs, k * 3 + 2, none⟩ = _ := fun y => y.cell hGX2 c2
  refine wp_region_calm X2.heap.size (by kernel_rfl) (by kernel_rfl) ?_
  repeat (go_big_quiet_step (fail))
  refine wpQuiet_nil ?_
  rintro w5 ⟨y, rfl⟩
  have HYX3 := hid y.h
  have hfX3 := (y.h.block Eb hEX2).trans hfX2
  generalize y.w = X3 at *
  clear pe0 pe1 pe2 pe3 pf1 pc0 pc1 pc2 c0 c1 c2 f1 e0 e1 e2 e3
  have e0 := cell_of_heap hfX3 0
  simp at e0
  go_wp2_with fail
  go_ret
  exact badP ((HB1.out.trans (HYX2.out.mono HB1.out.size)).trans (HYX3.out.mono (Nat.le_trans HB1.out.size HYX2.out.size)))

theorem comeI_calls {W0 : World} {Fb : Nat} {ac : Option Addr} {cc gs ch N : Nat} {T : List Sq} {wk : List Nat} {d : Int} {W : World} (h : Fl W0 Fb (.slice ac N cc) gs ch N T wk d false W) (tt n v p : Int) (h0 : 0 ≤ tt) (hn : 0 ≤ n) (hv : 0 ≤ v) (hp0 : 1 ≤ p) (hp1 : p ≤ 3) :
    Calls Tryd.prog 25 #[.pointer (some ⟨Fb, 0, none⟩), .agg #[.int .i64 tt, .int .i64 n, .int .i64 v, .int .i64 p]] W (ComeI W0 Fb (.slice ac N cc) gs ch N d W (comeZ N T wk (tt, ⟨n, v, p⟩))) := by
  have hbad : ∀ e W', BadP W e W' → comeZ N T wk (tt, ⟨n, v, p⟩) = none → ComeI W0 Fb (.slice ac N cc) gs ch N d W (comeZ N T wk (tt, ⟨n, v, p⟩)) e W' := fun e W' hb hz => by
    rw [hz]
    exact ⟨h.bel.trans (hb.2.mono h.bel.size), Fz.of_below hb.2, fun _ => hb.1, fun x hx => by cases hx⟩
  by_cases t1 : (N : Int) ≤ tt
  · refine (comeI_out h tt n v p t1).mono fun e W' hb => hbad e W' hb ?_
    unfold comeZ
    rw [if_pos (Or.inr (Or.inl t1))]
  obtain ⟨k, rfl⟩ : ∃ k : Nat, tt = (k : Int) := ⟨tt.toNat, by omega⟩
  have hk : k < N := by omega
  by_cases t2 : 100 < n ∨ 100 < v
  · refine (comeI_many h k n v p hk t2).mono fun e W' hb => hbad e W' hb ?_
    unfold comeZ
    rw [if_pos (by dsimp only; omega)]
  have hz : comeZ N T wk ((k : Int), ⟨n, v, p⟩) = if tg T k = ⟨n, v, p⟩ then some (T, wk) else if (tg T k).p ≠ 0 then none else some (T.set k ⟨n, v, p⟩, wk ++ [k]) := by
    unfold comeZ
    rw [if_neg (by dsimp only; omega)]
    rfl
  by_cases t3 : tg T k = ⟨n, v, p⟩
  · refine (comeI_same h k n v p hk (by omega) (by omega) t3).mono fun e W' hb => ?_
    rw [hz, if_pos t3]
    refine ⟨h.bel.trans (hb.2.mono h.bel.size), Fz.of_below hb.2, fun e => (by cases e), fun x hx => ?_⟩
    cases hx
    exact ⟨hb.1, h.below hb.2⟩
  by_cases t4 : (tg T k).p = 0
  · refine (comeI_push h k n v p hk hn (by omega) hv (by omega) hp0 hp1 t4).mono fun e W' hb => ?_
    rw [hz, if_neg t3, if_neg (fun e => e t4)]
    refine ⟨hb.2.1.bel, hb.2.2, fun e => (by cases e), fun x hx => ?_⟩
    cases hx
    exact ⟨hb.1, hb.2.1⟩
  · have hnone : comeZ N T wk ((k : Int), ⟨n, v, p⟩) = none := by rw [hz, if_neg t3, if_pos t4]
    obtain ⟨⟨x, y, z⟩, ht⟩ : ∃ s, tg T k = s := ⟨_, rfl⟩
    rw [ht] at t3 t4
    by_cases c1 : x = n
    · by_cases c2 : y = v
      · have c3 : z ≠ p := fun e => t3 (by rw [c1, c2, e])
        exact (comeI_otherP h k n v p x y z hk (by omega) (by omega) ht t4 c3).mono fun e W' hb => hbad e W' hb hnone
      · exact (comeI_otherV h k n v p x y z hk (by omega) (by omega) ht t4 c2).mono fun e W' hb => hbad e W' hb hnone
    · exact (comeI_otherN h k n v p x y z hk (by omega) (by omega) ht t4 c1).mono fun e W' hb => hbad e W' hb hnone
end Go.Proofs.YtfmkgppkgmjpfaaDoor
