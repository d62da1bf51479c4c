/- At every heap and list of roots the program changes the spaces, and leaves heap and roots, as the specification has it; it writes into no argument; its answers are memory of their own; no condition. -/
import Derived.Test.YtnoobonlmfgfhaaFlipBothRFlip
import Derived.Test.YtnoobonlmfgfhaaHHeapFlip4
import Derived.Test.YtnoobonlmfgfhaaHHeapFlip2
import Derived.OpenShut
namespace Go.Proofs.Ytnoobonlmfgfhaa.fnExactHeapFlip
open Go.ChangeShapes Go.WideShapes Go.ChangeAt Go.RowKit
set_option linter.unusedVariables false

theorem laidOut : laidOutB Try.prog = true := by kernel_rfl

theorem own : ownKnob Try.prog.godebug = none := by kernel_rfl

set_option maxHeartbeats 8000000 in
set_option maxRecDepth 100000 in
theorem walk {v rv : Value} {bs xs : List Int} (h : HpN) (w : World) (hv : IntSlice w v bs) (hrv : IntSlice w rv xs) (hm : bs.length ≤ maxLen) (hmr : xs.length ≤ maxLen) (ht : h.touched < 9223372036854775808) :
    Calls Try.prog 7 #[heapV v h, rv] w fun e w' => e = .returned (.bool true) ∧ Below w.heap.size w w' := by
  have HSz := hid (fun (w' : World) (hb : Below w.heap.size w w') => szHeap_calls h w' (hv.below hb) hm)
  have HTo := hid (fun (w' : World) (hb : Below w.heap.size w w') (hm' : bs.length ≤ 1048576) => toHeap_calls h w' (hv.below hb) hm')
  have HTr : Hid (∀ w' : World, Below w.heap.size w w' → xs.length ≤ 1048576 → Calls Try.prog 15 #[rv] w' fun e w2 => (∃ g, e = .returned (.slice (some ⟨g, 0, none⟩) xs.length xs.length) ∧ SliceR 3 1 w'.heap.size w2 (.slice (some ⟨g, 0, none⟩) xs.length xs.length) xs.length (intCells xs)) ∧ Below w'.heap.size w' w2) := fun w' hb hm' => (toIntS_any w' (hrv.below hb) hm').mono (by rintro e w2 ⟨⟨h1, h2⟩, h3⟩; exact ⟨⟨_, h1, h2⟩, h3⟩)
  have HBo := hid (fun hm' hx' => flip_both bs xs h ht hm' hx')
  obtain ⟨ad, cap, rfl, _⟩ := hv
  obtain ⟨adr, capr, rfl, _⟩ := hrv
  obtain ⟨g1, g2, g3, g4, g5, g6, g7, g8, g9⟩ := h
  unfold heapV at *
  dsimp only at *
  clear hm hmr ht
  have hkA := (MapKept.heap_alloc w (.cells #[.slice ad bs.length cap, .int .i64 g1, .int .i64 g2, .int .i64 g3, .int .i64 g4, .int .i64 g5, .int .i64 g6, .int .i64 g7, .int .i64 g8, .int .i64 g9] 24)).1
  have hbA := (Below.refl w.heap.size w).alloc (Nat.le_refl _) (.cells #[.slice ad bs.length cap, .int .i64 g1, .int .i64 g2, .int .i64 g3, .int .i64 g4, .int .i64 g5, .int .i64 g6, .int .i64 g7, .int .i64 g8, .int .i64 g9] 24)
  have HKA := hid hkA
  have HBA := hid hbA
  clear hkA hbA
  go_enter Try.func7, Try.ntmps7
  by_cases hbig : (1048576 : Int) < (xs.length : Int)
  · go_wp2_with fail
    go_ret
    exact ⟨rfl, HBA.out⟩
  have HX : Hid (xs.length ≤ 1048576) := by show _ ≤ _; omega
  go_wp2_with fail
  generalize w.alloc (.cells #[.slice ad bs.length cap, .int .i64 g1, .int .i64 g2, .int .i64 g3, .int .i64 g4, .int .i64 g5, .int .i64 g6, .int .i64 g7, .int .i64 g8, .int .i64 g9] 24) = WA at *
  refine (HSz.out _ HBA.out).mono ?_
  rintro e W1 ⟨⟨r, rfl, hr⟩, hb1⟩
  have M1 := hid ((Mem.start WA).keep hb1)
  clear hb1 HSz
  by_cases hneg : r < 0
  · go_wp2_with fail
    go_ret
    exact ⟨rfl, HBA.out.trans (M1.out.below.mono HBA.out.size)⟩
  have HL := hid (hr.resolve_left hneg).2
  clear hr
  obtain ⟨ans, H, ys, ok, hal, hyl, hS, hI⟩ := HBo.out HL.out HX.out
  have HAL := hid hal
  have HYL := hid hyl
  have HS := hid hS
  have HI := hid hI
  clear hal hyl hS hI HBo
  -- the argument's block, at whatever world
  have HAa : Hid (∀ X, Below WA.heap.size WA X → X.heap[w.heap.size]? = some (.cells #[.slice ad bs.length cap, .int .i64 g1, .int .i64 g2, .int .i64 g3, .int .i64 g4, .int .i64 g5, .int .i64 g6, .int .i64 g7, .int .i64 g8, .int .i64 g9] 24)) := fun X hX => (hX.block w.heap.size (heap_lt HKA.out)).trans HKA.out
  have HKw : Hid (∀ X, Below WA.heap.size WA X → Below w.heap.size w X) := fun X hX => HBA.out.trans (hX.mono HBA.out.size)
  clear HKA HBA
  have b1 := HAa.out _ M1.out.below
  have q0 := cell_of_heap b1 0
  have q1 := cell_of_heap b1 1
  have q2 := cell_of_heap b1 2
  have q3 := cell_of_heap b1 3
  have q4 := cell_of_heap b1 4
  have q5 := cell_of_heap b1 5
  have q6 := cell_of_heap b1 6
  have q7 := cell_of_heap b1 7
  have q8 := cell_of_heap b1 8
  have q9 := cell_of_heap b1 9
  simp at q0 q1 q2 q3 q4 q5 q6 q7 q8 q9
  clear b1
  go_wp2_with fail
  refine (HTo.out _ (HKw.out _ M1.out.below) HL.out).mono ?_
  rintro e W2 ⟨⟨ga, rfl, hsa⟩, hb2⟩
  have M2 := hid (M1.out.keep hb2)
  have HSa := hid hsa
  clear hsa hb2 M1 q0 q1 q2 q3 q4 q5 q6 q7 q8 q9
  go_wp2_with fail
  refine (HTr.out _ (HKw.out _ M2.out.below) HX.out).mono ?_
  rintro e W2' ⟨⟨rr, rfl, hsr⟩, hb2'⟩
  have M2' := hid (M2.out.keep hb2')
  have HSa' := hid (HSa.out.below hb2')
  have HSr := hid hsr
  clear hsr hb2' M2 HSa
  go_wp2_with fail
  refine (HS.out _ _ _ _ _ HSa'.out HSr.out).mono ?_
  rintro e W3 ⟨⟨va, ua, rfl, hsv, hsu, hap⟩, hb3⟩
  have hq := hsv
  obtain ⟨ada, capa, rfl, _⟩ := hq
  have hq := hsu
  obtain ⟨adu, capu, rfl, _⟩ := hq
  have M3 := hid (M2'.out.more2 hb3 ⟨_, _, _⟩ ⟨_, _, _⟩ hsv hsu (fun h0 h1 e => hap h0 h1 e.symm))
  clear hsv hsu hap hb3 M2' HS HSa' HSr
  obtain ⟨h1, h2, h3, h4, h5, h6, h7, h8, h9⟩ := H
  unfold heapV
  dsimp only
  have b3 := HAa.out _ M3.out.below
  have q0 := cell_of_heap b3 0
  have q1 := cell_of_heap b3 1
  have q2 := cell_of_heap b3 2
  have q3 := cell_of_heap b3 3
  have q4 := cell_of_heap b3 4
  have q5 := cell_of_heap b3 5
  have q6 := cell_of_heap b3 6
  have q7 := cell_of_heap b3 7
  have q8 := cell_of_heap b3 8
  have q9 := cell_of_heap b3 9
  simp at q0 q1 q2 q3 q4 q5 q6 q7 q8 q9
  have hltA := heap_lt b3
  clear b3
  go_wp2_with fail
  have M3' := hid (M3.out.lay (.slice ada ans.length capa) ⟨h1, h2, h3, h4, h5, h6, h7, h8, h9⟩)
  refine (HTo.out _ (HKw.out _ M3'.out.below) HL.out).mono ?_
  rintro e W4 ⟨⟨gx, rfl, hsx⟩, hb4⟩
  have M4 := hid (M3'.out.more hb4 ⟨_, _, _⟩ hsx)
  clear hsx hb4 M3 M3' q0 q1 q2 q3 q4 q5 q6 q7 q8 q9
  have M5 := hid (M4.out.lay (.slice (some ⟨gx, 0, none⟩) bs.length bs.length) ⟨g1, g2, g3, g4, g5, g6, g7, g8, g9⟩)
  go_wp2_with fail
  refine (HTr.out _ (HKw.out _ M5.out.below) HX.out).mono ?_
  rintro e W5 ⟨⟨rr, rfl, hsr⟩, hb5⟩
  have M5' := hid (M5.out.more hb5 ⟨_, _, _⟩ hsr)
  have hB54 : W4.heap.size < W5.heap.size := by have := hb5.size; simp at this; omega
  clear hsr hb5 M4 M5
  obtain ⟨c0, c1, c2, c3, c4, c5, c6, c7, c8, c9⟩ := (M5'.out.blocks _ List.mem_cons_self).1.cells
  dsimp only at c0 c1 c2 c3 c4 c5 c6 c7 c8 c9
  go_wp2_with fail
  refine (HI.out _ _ _ _ _ (M5'.out.slices _ (List.mem_cons_of_mem _ List.mem_cons_self)) (M5'.out.slices _ List.mem_cons_self)).mono ?_
  rintro e W6 ⟨⟨vg, ug, rfl, hsg, hsu, hap⟩, hb6⟩
  have hq := hsg
  obtain ⟨adg, capg, rfl, _⟩ := hq
  have hq := hsu
  obtain ⟨adv, capv, rfl, _⟩ := hq
  have M6 := hid (M5'.out.more2 hb6 ⟨_, _, _⟩ ⟨_, _, _⟩ hsg hsu (fun h0 h1 e => hap h0 h1 e.symm))
  have hB64 : W4.heap.size < W6.heap.size := by have := hb6.size; omega
  clear hsg hsu hap hb6 M5' c0 c1 c2 c3 c4 c5 c6 c7 c8 c9
  unfold heapV
  dsimp only
  have M7 := hid (M6.out.lay (.slice adg ans.length capg) ⟨h1, h2, h3, h4, h5, h6, h7, h8, h9⟩)
  obtain ⟨c0, c1, c2, c3, c4, c5, c6, c7, c8, c9⟩ := (M6.out.blocks _ (List.mem_cons_of_mem _ List.mem_cons_self)).1.cells
  dsimp only at c0 c1 c2 c3 c4 c5 c6 c7 c8 c9
  have hlt3 : W3.heap.size < W6.heap.size := heap_lt (M6.out.blocks _ (List.mem_cons_of_mem _ List.mem_cons_self)).1
  have hRR : (ok != ok) = false := by cases ok <;> rfl
  go_wp2_with fail
  refine (eqHeap_calls ⟨h1, h2, h3, h4, h5, h6, h7, h8, h9⟩ _ HAL.out (M7.out.slices _ List.mem_cons_self).intSlice (M7.out.slices _ (List.mem_cons_of_mem _ (List.mem_cons_of_mem _ (List.mem_cons_of_mem _ (List.mem_cons_of_mem _ List.mem_cons_self))))).intSlice).mono ?_
  rintro e W8 ⟨rfl, hb8⟩
  have M8' := hid (M7.out.keep hb8)
  clear M6 M7 c0 c1 c2 c3 c4 c5 c6 c7 c8 c9 hb8
  go_wp2_with fail
  refine (eqIntS_any _ HYL.out (M8'.out.slices _ (List.mem_cons_of_mem _ List.mem_cons_self)).intSlice (M8'.out.slices _ (List.mem_cons_of_mem _ (List.mem_cons_of_mem _ (List.mem_cons_of_mem _ (List.mem_cons_of_mem _ (List.mem_cons_of_mem _ List.mem_cons_self)))))).intSlice).mono ?_
  rintro e W8' ⟨rfl, hb8⟩
  have M8 := hid (M8'.out.keep hb8)
  clear M8' hb8
  go_wp2_with fail
  have b8 := HAa.out _ M8.out.below
  have hlt8 := heap_lt b8
  have q0 : ∀ y : Later W8'.heap.size W8', y.w.cell? ⟨w.heap.size, 0, none⟩ = _ := fun y => y.cell hlt8 (cell_of_heap b8 0)
  have q1 : ∀ y : Later W8'.heap.size W8', y.w.cell? ⟨w.heap.size, 1, none⟩ = _ := fun y => y.cell hlt8 (cell_of_heap b8 1)
  have q2 : ∀ y : Later W8'.heap.size W8', y.w.cell? ⟨w.heap.size, 2, none⟩ = _ := fun y => y.cell hlt8 (cell_of_heap b8 2)
  have q3 : ∀ y : Later W8'.heap.size W8', y.w.cell? ⟨w.heap.size, 3, none⟩ = _ := fun y => y.cell hlt8 (cell_of_heap b8 3)
  have q4 : ∀ y : Later W8'.heap.size W8', y.w.cell? ⟨w.heap.size, 4, none⟩ = _ := fun y => y.cell hlt8 (cell_of_heap b8 4)
  have q5 : ∀ y : Later W8'.heap.size W8', y.w.cell? ⟨w.heap.size, 5, none⟩ = _ := fun y => y.cell hlt8 (cell_of_heap b8 5)
  have q6 : ∀ y : Later W8'.heap.size W8', y.w.cell? ⟨w.heap.size, 6, none⟩ = _ := fun y => y.cell hlt8 (cell_of_heap b8 6)
  have q7 : ∀ y : Later W8'.heap.size W8', y.w.cell? ⟨w.heap.size, 7, none⟩ = _ := fun y => y.cell hlt8 (cell_of_heap b8 7)
  have q8 : ∀ y : Later W8'.heap.size W8', y.w.cell? ⟨w.heap.size, 8, none⟩ = _ := fun y => y.cell hlt8 (cell_of_heap b8 8)
  have q9 : ∀ y : Later W8'.heap.size W8', y.w.cell? ⟨w.heap.size, 9, none⟩ = _ := fun y => y.cell hlt8 (cell_of_heap b8 9)
  simp at q0 q1 q2 q3 q4 q5 q6 q7 q8 q9
  have hx8 := (M8.out.blocks _ (List.mem_cons_of_mem _ List.mem_cons_self)).1
  dsimp only at hx8
  obtain ⟨v0, v1, v2, v3, v4, v5, v6, v7, v8, v9⟩ := hx8.later (B := W8'.heap.size) (heap_lt hx8)
  dsimp only at v0 v1 v2 v3 v4 v5 v6 v7 v8 v9
  clear b8 hx8
  refine stage_begin (S := fun w' => ∃ x : Later W8'.heap.size W8', w' = x.w) (by kernel_rfl) ?_
  refine stage_walk (by kernel_rfl) 2 0 _ _ (by kernel_rfl) ⟨⟨W8'.drew, (Below.refl _ _).drew⟩, rfl⟩ ?_
  simp only [List.drop_zero, List.take_succ_cons, List.take_zero]
  repeat (go_big_quiet_step (fail))
  refine wpQuiet_nil ?_
  rintro w5 ⟨x1, rfl⟩
  refine stage_enter (k := 2) (f := 11) (args := #[.agg #[.slice ad bs.length cap, .int .i64 g1, .int .i64 g2, .int .i64 g3, .int .i64 g4, .int .i64 g5, .int .i64 g6, .int .i64 g7, .int .i64 g8, .int .i64 g9]]) rfl (by kernel_rfl) rfl (by simp [go_sem]) ?_
  refine (HTo.out _ ((HKw.out _ M8.out.below).trans (x1.h.mono (HKw.out _ M8.out.below).size)) HL.out).mono ?_
  rintro e W9 ⟨⟨g9', rfl, hs9⟩, hb9⟩
  have M9 := hid ((M8.out.keep x1.h).keep hb9)
  have HS9 := hid hs9
  have hL9 := x1.h.trans (hb9.mono x1.h.size)
  refine ⟨_, rfl, ⟨⟨W9, hL9⟩, rfl⟩, ?_⟩
  clear hs9 q0 q1 q2 q3 q4 q5 q6 q7 q8 q9 v0 v1 v2 v3 v4 v5 v6 v7 v8 v9
  refine stage_frame (by simp [go_sem]; exact rfl) ?_
  refine stage_class (S' := fun w' => ∃ y : Later W9.heap.size W9, w' = y.w) (fun w' ⟨y, hy⟩ => ⟨⟨w', hL9.trans ((hy ▸ y.h).mono hL9.size)⟩, rfl⟩) ?_
  refine stage_walk (by kernel_rfl) 2 3 _ _ (by kernel_rfl) ⟨⟨W9, Below.refl _ _⟩, rfl⟩ ?_
  simp only [List.drop_zero, List.drop_succ_cons, List.take_succ_cons, List.take_zero]
  repeat (go_big_quiet_step (first | (rename_i y; go_at_call 13; refine (eqHeap_calls ⟨g1, g2, g3, g4, g5, g6, g7, g8, g9⟩ _ HL.out (((M9.out.keep y.h).slices _ (List.mem_cons_of_mem _ (List.mem_cons_of_mem _ (List.mem_cons_of_mem _ List.mem_cons_self))))).intSlice (HS9.out.below y.h).intSlice).mono ?_; rintro e w5 ⟨rfl, hb5⟩; exact ⟨rfl, ⟨w5, y.h.trans (hb5.mono y.h.size)⟩, rfl⟩)))
  refine wpQuiet_nil ?_
  rintro w6 ⟨y, rfl⟩
  refine stage_end (by kernel_rfl) ?_
  have M10 := hid (M9.out.keep y.h)
  clear M8 M9 HS9 hL9 hb9
  generalize y.w = W10 at *
  go_wp2_with fail
  refine (HTr.out _ (HKw.out _ M10.out.below) HX.out).mono ?_
  rintro e W10' ⟨⟨rr, rfl, hsr⟩, hbr⟩
  have M10' := hid (M10.out.keep hbr)
  clear M10 hbr
  go_wp2_with fail
  refine (eqIntS_any _ HX.out (M10'.out.slices _ (List.mem_cons_of_mem _ (List.mem_cons_of_mem _ List.mem_cons_self))).intSlice hsr.intSlice).mono ?_
  rintro e W11 ⟨rfl, hb11⟩
  have M11 := hid (M10'.out.keep hb11)
  clear M10' hb11 hsr
  obtain ⟨c0, c1, c2, c3, c4, c5, c6, c7, c8, c9⟩ := (M11.out.blocks _ (List.mem_cons_of_mem _ List.mem_cons_self)).1.cells
  dsimp only at c0 c1 c2 c3 c4 c5 c6 c7 c8 c9
  go_wp2_with fail
  refine (markHeap_any 1 (by constructor <;> decide) ⟨g1, g2, g3, g4, g5, g6, g7, g8, g9⟩ _ HL.out (M11.out.slices _ (List.mem_cons_of_mem _ (List.mem_cons_of_mem _ (List.mem_cons_of_mem _ List.mem_cons_self))))).mono ?_
  rintro e W12 ⟨rfl, hs12, W12', hb12, ht12⟩
  have M12 := hid (M11.out.fourth.mark hb12 ht12 hs12).back4
  clear M11 hs12 hb12 ht12 c0 c1 c2 c3 c4 c5 c6 c7 c8 c9
  have hk0 : Hid (0 ≤ 1 + (bs.length : Int) ∧ 1 + (bs.length : Int) ≤ 1000000000) := by have := HL.out; constructor <;> omega
  go_wp2_with fail
  refine (markIntS_any (1 + (bs.length : Int)) hk0 _ HX.out (M12.out.slices _ (List.mem_cons_of_mem _ (List.mem_cons_of_mem _ List.mem_cons_self)))).mono ?_
  rintro e W13 ⟨rfl, hs13, ht13⟩
  have M13 := hid (M12.out.third.mark (Below.refl _ _) ht13 hs13).back3
  clear M12 hs13 ht13
  obtain ⟨c0, c1, c2, c3, c4, c5, c6, c7, c8, c9⟩ := (M13.out.blocks _ List.mem_cons_self).1.cells
  dsimp only at c0 c1 c2 c3 c4 c5 c6 c7 c8 c9
  obtain ⟨d0, d1, d2, d3, d4, d5, d6, d7, d8, d9⟩ := (M13.out.blocks _ (List.mem_cons_of_mem _ (List.mem_cons_of_mem _ List.mem_cons_self))).1.cells
  dsimp only at d0 d1 d2 d3 d4 d5 d6 d7 d8 d9
  have hm0 : ¬ (1 + (bs.length : Int) + (xs.length : Int) < 0) := by omega
  generalize 1 + (bs.length : Int) + (xs.length : Int) = kk at *
  go_wp2_with fail
  refine (eqHeap_calls ⟨h1, h2, h3, h4, h5, h6, h7, h8, h9⟩ _ HAL.out (M13.out.slices _ List.mem_cons_self).intSlice (M13.out.slices _ (List.mem_cons_of_mem _ (List.mem_cons_of_mem _ (List.mem_cons_of_mem _ (List.mem_cons_of_mem _ List.mem_cons_self))))).intSlice).mono ?_
  rintro e W14 ⟨rfl, hb14⟩
  have M14 := hid (M13.out.keep hb14)
  clear M13 hb14 c0 c1 c2 c3 c4 c5 c6 c7 c8 c9 d0 d1 d2 d3 d4 d5 d6 d7 d8 d9
  go_wp2_with fail
  refine (eqIntS_any _ HYL.out (M14.out.slices _ (List.mem_cons_of_mem _ List.mem_cons_self)).intSlice (M14.out.slices _ (List.mem_cons_of_mem _ (List.mem_cons_of_mem _ (List.mem_cons_of_mem _ (List.mem_cons_of_mem _ (List.mem_cons_of_mem _ List.mem_cons_self)))))).intSlice).mono ?_
  rintro e W15 ⟨rfl, hb15⟩
  have M15 := hid (M14.out.keep hb15)
  clear M14 hb15
  obtain ⟨c0, c1, c2, c3, c4, c5, c6, c7, c8, c9⟩ := (M15.out.blocks _ List.mem_cons_self).1.cells
  dsimp only at c0 c1 c2 c3 c4 c5 c6 c7 c8 c9
  go_wp2_with fail
  refine (markHeap_any 1 (by constructor <;> decide) ⟨h1, h2, h3, h4, h5, h6, h7, h8, h9⟩ _ HAL.out (M15.out.slices _ List.mem_cons_self)).mono ?_
  rintro e W16 ⟨rfl, hs16, W16', hb16, ht16⟩
  have M16 := hid (M15.out.mark hb16 ht16 hs16)
  clear M15 hs16 hb16 ht16 c0 c1 c2 c3 c4 c5 c6 c7 c8 c9
  have hk1 : Hid (0 ≤ 1 + (ans.length : Int) ∧ 1 + (ans.length : Int) ≤ 1000000000) := by have := HAL.out; constructor <;> omega
  go_wp2_with fail
  refine (markIntS_any (1 + (ans.length : Int)) hk1 _ HYL.out (M16.out.slices _ (List.mem_cons_of_mem _ List.mem_cons_self))).mono ?_
  rintro e W17 ⟨rfl, hs17, ht17⟩
  have M17 := hid (((M16.out.perm (List.Perm.swap _ _ _)).mark (Below.refl _ _) ht17 hs17).perm (List.Perm.swap _ _ _))
  clear M16 hs17 ht17
  obtain ⟨c0, c1, c2, c3, c4, c5, c6, c7, c8, c9⟩ := (M17.out.blocks _ List.mem_cons_self).1.cells
  dsimp only at c0 c1 c2 c3 c4 c5 c6 c7 c8 c9
  have HH : Hid (∀ W, SliceR 3 1 WA.heap.size W (.slice adg ans.length capg) ans.length (intMarks 1) → Calls Try.prog 20 #[heapV (.slice adg ans.length capg) ⟨h1, h2, h3, h4, h5, h6, h7, h8, h9⟩, .int .i64 1] W fun e w' => e = .returned (.int .i64 (1 + (ans.length : Int))) ∧ Below W.heap.size W w') := fun W h => heldHeap_any 1 (by constructor <;> decide) _ W HAL.out h
  have HR : Hid (∀ W, SliceR 3 1 WA.heap.size W (.slice adv ys.length capv) ys.length (intMarks (1 + (ans.length : Int))) → Calls Try.prog 21 #[.slice adv ys.length capv, .int .i64 (1 + (ans.length : Int))] W fun e w' => e = .returned (.int .i64 (1 + (ans.length : Int) + (ys.length : Int))) ∧ W = w') := fun W h => heldIntS_any _ hk1 W HYL.out h
  have hmm : ¬ (1 + (ans.length : Int) < 0) := by omega
  have hmn : ¬ (1 + (ans.length : Int) + (ys.length : Int) < 0) := by omega
  generalize 1 + (ans.length : Int) + (ys.length : Int) = mn at *
  generalize 1 + (ans.length : Int) = mm at *
  go_wp2_with fail
  refine (HH.out _ (M17.out.slices _ List.mem_cons_self)).mono ?_
  rintro e W18 ⟨rfl, hb18⟩
  have M18 := hid (M17.out.keep hb18)
  clear M17 hb18 c0 c1 c2 c3 c4 c5 c6 c7 c8 c9
  go_wp2_with fail
  refine (HR.out _ (M18.out.slices _ (List.mem_cons_of_mem _ List.mem_cons_self))).mono ?_
  rintro e _ ⟨rfl, rfl⟩
  have b16 := HAa.out _ M18.out.below
  have q0 := cell_of_heap b16 0
  have q1 := cell_of_heap b16 1
  have q2 := cell_of_heap b16 2
  have q3 := cell_of_heap b16 3
  have q4 := cell_of_heap b16 4
  have q5 := cell_of_heap b16 5
  have q6 := cell_of_heap b16 6
  have q7 := cell_of_heap b16 7
  have q8 := cell_of_heap b16 8
  have q9 := cell_of_heap b16 9
  simp at q0 q1 q2 q3 q4 q5 q6 q7 q8 q9
  clear b16
  go_wp2_with fail
  refine (HTo.out _ (HKw.out _ M18.out.below) HL.out).mono ?_
  rintro e W19 ⟨⟨gy, rfl, hsy⟩, hb19⟩
  have M19 := hid (M18.out.keep hb19)
  have HSy := hid hsy
  clear hsy hb19 M18 q0 q1 q2 q3 q4 q5 q6 q7 q8 q9
  go_wp2_with fail
  refine (HTr.out _ (HKw.out _ M19.out.below) HX.out).mono ?_
  rintro e W20 ⟨⟨rr, rfl, hsr⟩, hb20⟩
  have M20 := hid (M19.out.keep hb20)
  have HSy' := hid (HSy.out.below hb20)
  have HSr := hid hsr
  clear hsr hb20 M19 HSy
  go_wp2_with fail
  refine (HI.out _ _ _ _ _ HSy'.out HSr.out).mono ?_
  rintro e W21 ⟨⟨vh, uh, rfl, hsh, hsu, hap⟩, hb21⟩
  have hq := hsh
  obtain ⟨adh, caph, rfl, _⟩ := hq
  have hq := hsu
  obtain ⟨adi, capi, rfl, _⟩ := hq
  have M21 := hid (M20.out.more2 hb21 ⟨_, _, _⟩ ⟨_, _, _⟩ hsh hsu (fun h0 h1 e => hap h0 h1 e.symm))
  clear hsh hsu hap hb21 M20 HSy' HSr
  unfold heapV
  dsimp only
  obtain ⟨c0, c1, c2, c3, c4, c5, c6, c7, c8, c9⟩ := (M21.out.blocks _ (List.mem_cons_of_mem _ (List.mem_cons_of_mem _ List.mem_cons_self))).1.cells
  dsimp only at c0 c1 c2 c3 c4 c5 c6 c7 c8 c9
  have hlt21 : W3.heap.size < W21.heap.size := heap_lt (M21.out.blocks _ (List.mem_cons_of_mem _ (List.mem_cons_of_mem _ List.mem_cons_self))).1
  have M22 := hid (M21.out.lay (.slice adh ans.length caph) ⟨h1, h2, h3, h4, h5, h6, h7, h8, h9⟩)
  go_wp2_with fail
  refine (eqHeap_calls ⟨h1, h2, h3, h4, h5, h6, h7, h8, h9⟩ _ HAL.out (M22.out.slices _ List.mem_cons_self).intSlice (M22.out.slices _ (List.mem_cons_of_mem _ (List.mem_cons_of_mem _ (List.mem_cons_of_mem _ (List.mem_cons_of_mem _ (List.mem_cons_of_mem _ (List.mem_cons_of_mem _ List.mem_cons_self))))))).intSlice).mono ?_
  rintro e W23 ⟨rfl, hb23⟩
  have M23 := hid (M22.out.keep hb23)
  clear M21 M22 hb23 c0 c1 c2 c3 c4 c5 c6 c7 c8 c9
  go_wp2_with fail
  refine (eqIntS_any _ HYL.out (M23.out.slices _ (List.mem_cons_of_mem _ List.mem_cons_self)).intSlice (M23.out.slices _ (List.mem_cons_of_mem _ (List.mem_cons_of_mem _ (List.mem_cons_of_mem _ (List.mem_cons_of_mem _ (List.mem_cons_of_mem _ (List.mem_cons_of_mem _ (List.mem_cons_of_mem _ List.mem_cons_self)))))))).intSlice).mono ?_
  rintro e W24 ⟨rfl, hb24⟩
  have M24 := hid (M23.out.keep hb24)
  clear M23 hb24
  obtain ⟨c0, c1, c2, c3, c4, c5, c6, c7, c8, c9⟩ := (M24.out.blocks _ (List.mem_cons_of_mem _ List.mem_cons_self)).1.cells
  dsimp only at c0 c1 c2 c3 c4 c5 c6 c7 c8 c9
  go_wp2_with fail
  refine (HH.out _ (M24.out.slices _ (List.mem_cons_of_mem _ (List.mem_cons_of_mem _ List.mem_cons_self)))).mono ?_
  rintro e W25 ⟨rfl, hb25⟩
  have M25 := hid (M24.out.keep hb25)
  clear M24 hb25 c0 c1 c2 c3 c4 c5 c6 c7 c8 c9
  go_wp2_with fail
  refine (HR.out _ (M25.out.slices _ (List.mem_cons_of_mem _ (List.mem_cons_of_mem _ (List.mem_cons_of_mem _ List.mem_cons_self))))).mono ?_
  rintro e _ ⟨rfl, rfl⟩
  go_wp2_with fail
  go_ret
  exact ⟨rfl, HKw.out _ M25.out.below⟩
set_option maxRecDepth 100000 in
theorem lifted (os : Os) (started : os.Started) (H : Type) (enc : TypeId × Value → H) :
    ReturnsInHanded {} Try.checked os 7 .any (Rows.fnExactHeapFlipSpec.pre6 enc Try.prog Try.f7 Rows.fnExactHeapFlipRow.domain false) (Rows.fnExactHeapFlipSpec.post enc Try.prog Try.f7 false true false false) := by
  refine returnsInHanded_of_change (C := Try.checked) own started (by kernel_rfl) Try.func7
    (ChangeSpec.witness6 (enc := enc) (C := Try.checked) false ⟨#[], #[.agg #[.slice none 0 0, .int .i64 0, .int .i64 0, .int .i64 0, .int .i64 0, .int .i64 0, .int .i64 0, .int .i64 0, .int .i64 0, .int .i64 0], .slice none 0 0], []⟩ 8 (by kernel_rfl) (by kernel_rfl) (by kernel_rfl) (by kernel_rfl)) ?_
  intro W base args ds gs before hval0 hW hcnd _
  have hval : ∀ (j : Nat) t v, Try.f7.params[j]? = some t → args[j]? = some v → Value.okWide Try.prog W .any base t v := hval0
  have hW' := hW
  obtain ⟨p, q, hA0, hV, rfl, hfz, hnd⟩ := hW
  have hA : DataW.TrodAll enc Try.prog W 0 (fun _ => true) true Try.f7.params.toList args.toList ds p := hA0
  rw [Try.params7] at hA hval
  obtain ⟨v0, vs0, d0, ds0, p0, q0, hargs, rfl, rfl, h0, r0⟩ := trodAll_cons hA
  obtain ⟨v1, vs1, d1, ds1, p1, q1, hargs1, rfl, rfl, h1, r1⟩ := trodAll_cons r0
  obtain ⟨rfl, rfl, rfl⟩ := trodAll_nil r1
  subst hargs1
  obtain rfl : args = #[v0, v1] := by cases args; simp_all
  obtain ⟨rfl, rfl⟩ := trodVars_none hV
  clear hA0 hval0
  simp only [List.append_nil] at hW'
  have hlt : ∀ y ∈ p0, y.block < W.heap.size := fun y hy => by simpa using hW'.lt y (by simp [hy])
  have hlt1 : ∀ y ∈ p1, y.block < W.heap.size := fun y hy => by simpa using hW'.lt y (by simp [hy])
  have h1k := h1
  obtain ⟨fuel1, hf1⟩ := h1
  obtain ⟨ar, lr, cr, rfl⟩ := okWide_slice Try.underlying22 (hval 1 22 v1 rfl rfl)
  obtain ⟨xs, hX, hXM⟩ := open_intS (by simpa [Value.cells] using hf1)
  have h0k := h0
  obtain ⟨fuel, hf⟩ := h0
  obtain ⟨cs, rfl, hcs⟩ := okWide_struct Try.underlying24 (hval 0 24 v0 rfl rfl)
  obtain ⟨v, bs, n, hc, hB, hM, hT⟩ := open_heapT (by simpa [Value.cells] using hf)
  obtain rfl : cs = #[v, .int .i64 n.size, .int .i64 n.to, .int .i64 n.bottom, .int .i64 n.top, .int .i64 n.scan, .int .i64 n.fb, .int .i64 n.ft, .int .i64 n.flips, .int .i64 n.touched] := by cases cs; simp_all
  refine (walk n W hB hX hM hXM hT).mono fun e W' ⟨he, hg⟩ => ?_
  subst he
  refine ⟨_, rfl, _, _, _, [], p0 ++ p1, [], hW', ?_, ?_, rfl, hg.frame _, fun h => by cases h⟩
  · exact trodAll_cons_mk (shut_bool Try.underlying4 _) trodAll_mk0
  · have e := trodAll_cons_mk (Below.trod laidOut (by kernel_rfl) (of_decide_eq_true (by kernel_rfl)) h0k hg hlt) (trodAll_cons_mk (Below.trod laidOut (by kernel_rfl) (of_decide_eq_true (by kernel_rfl)) h1k hg hlt1) trodAll_mk0)
    rw [List.append_nil] at e
    exact e

theorem over : Rows.fnExactHeapFlipRow.holds Try.pinned (OpenSpec.ofChange Rows.fnExactHeapFlipSpec) :=
  OpenClaim.holds_of_wide 7 Try.f7 rfl rfl rfl rfl rfl rfl rfl ⟨rfl, rfl, rfl, rfl, rfl⟩ rfl rfl rfl rfl rfl (by kernel_rfl) Try.func7 (by kernel_rfl)
    (of_decide_eq_true (by kernel_rfl)) (by unfold Func.isWrapper; first | (rw [if_pos (by decide +kernel)]; kernel_rfl) | (rw [if_neg (by decide +kernel)]; exact ⟨rfl, rfl⟩))
    (fun os started H enc _ => lifted os started H enc)

theorem proved : Rows.FnExactHeapFlipSaid :=
  over
#print axioms proved
end Go.Proofs.Ytnoobonlmfgfhaa.fnExactHeapFlip
