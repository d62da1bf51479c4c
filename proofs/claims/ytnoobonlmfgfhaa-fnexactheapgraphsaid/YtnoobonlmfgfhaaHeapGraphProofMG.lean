/- At every heap and list of roots the program tells the objects that the roots lead to, and the roots told, as the specification has it; it writes into no argument; its answers are memory of their own; no condition. -/
import Derived.Test.YtnoobonlmfgfhaaGraphEnd
import Derived.Test.YtnoobonlmfgfhaaStagesE
import Derived.OpenShut
namespace Go.Proofs.Ytnoobonlmfgfhaa.fnExactHeapGraph
open Go.ChangeShapes Go.WideShapes Go.ChangeAt Go.RowKit
set_option linter.unusedVariables false

theorem laidOut : laidOutB Try.prog = true := by kernel_rfl

theorem own : ownKnob Try.prog.godebug = none := by kernel_rfl

theorem marks_small {n : Nat} {f : Nat → List Int} (h : ∀ j, j < n → (f j).length ≤ 5) : ∀ i, i ≤ n → 0 ≤ markAt 1 (fun i => (f i).length) i ∧ markAt 1 (fun i => (f i).length) i ≤ 1 + 6 * (i : Int)
  | 0, _ => by
    unfold markAt
    omega
  | i + 1, hi => by
    have h1 := marks_small h i (by omega)
    have h2 := h i (by omega)
    unfold markAt
    omega

set_option maxHeartbeats 8000000 in
set_option maxRecDepth 100000 in
theorem walk {v rv : Value} {bs xs : List Int} (h : HpN) (w : World) (hv : IntSlice w v bs) (hrv : IntSlice w rv xs) (hm : bs.length ≤ maxLen) (hmr : xs.length ≤ maxLen) :
    Calls Try.prog 8 #[heapV v h, rv] w fun e w' => e = .returned (.bool true) ∧ Below w.heap.size w w' := by
  have HSz := hid (fun (w' : World) (hb : Below w.heap.size w w') => szHeap_calls h w' (hv.below hb) hm)
  have HTo := hid (fun (w' : World) (hb : Below w.heap.size w w') (hm' : bs.length ≤ 1048576) => toHeap_calls h w' (hv.below hb) hm')
  have HTr : Hid (∀ w' : World, Below w.heap.size w w' → xs.length ≤ 1048576 → Calls Try.prog 15 #[rv] w' fun e w2 => (∃ g, e = .returned (.slice (some ⟨g, 0, none⟩) xs.length xs.length) ∧ SliceR 3 1 w'.heap.size w2 (.slice (some ⟨g, 0, none⟩) xs.length xs.length) xs.length (intCells xs)) ∧ Below w'.heap.size w' w2) := fun w' hb hm' => (toIntS_any w' (hrv.below hb) hm').mono (by rintro e w2 ⟨⟨h1, h2⟩, h3⟩; exact ⟨⟨_, h1, h2⟩, h3⟩)
  have HBo := hid (fun hm' hx' => graph_both bs xs h hm' hx')
  obtain ⟨ad, cap, rfl, _⟩ := hv
  obtain ⟨adr, capr, rfl, _⟩ := hrv
  obtain ⟨g1, g2, g3, g4, g5, g6, g7, g8, g9⟩ := h
  unfold heapV at *
  dsimp only at *
  clear hm hmr
  have hkA := (MapKept.heap_alloc w (.cells #[.slice ad bs.length cap, .int .i64 g1, .int .i64 g2, .int .i64 g3, .int .i64 g4, .int .i64 g5, .int .i64 g6, .int .i64 g7, .int .i64 g8, .int .i64 g9] 24)).1
  have hbA := (Below.refl w.heap.size w).alloc (Nat.le_refl _) (.cells #[.slice ad bs.length cap, .int .i64 g1, .int .i64 g2, .int .i64 g3, .int .i64 g4, .int .i64 g5, .int .i64 g6, .int .i64 g7, .int .i64 g8, .int .i64 g9] 24)
  have HKA := hid hkA
  have HBA := hid hbA
  clear hkA hbA
  go_enter Try.func8, Try.ntmps8
  by_cases hbig : (1048576 : Int) < (xs.length : Int)
  · go_wp2_with fail
    go_ret
    exact ⟨rfl, HBA.out⟩
  have HX : Hid (xs.length ≤ 1048576) := by show _ ≤ _; omega
  go_wp2_with fail
  generalize w.alloc (.cells #[.slice ad bs.length cap, .int .i64 g1, .int .i64 g2, .int .i64 g3, .int .i64 g4, .int .i64 g5, .int .i64 g6, .int .i64 g7, .int .i64 g8, .int .i64 g9] 24) = WA at *
  refine (HSz.out _ HBA.out).mono ?_
  rintro e W1 ⟨⟨r, rfl, hr⟩, hb1⟩
  have M1 := hid ((Held.start WA).keep hb1)
  clear hb1 HSz
  by_cases hneg : r < 0
  · go_wp2_with fail
    go_ret
    exact ⟨rfl, HBA.out.trans (M1.out.below.mono HBA.out.size)⟩
  have HL := hid (hr.resolve_left hneg).2
  clear hr
  obtain ⟨os, ys, ok, hol, hfl, hyl, hS, hI⟩ := HBo.out HL.out HX.out
  have HOL := hid hol
  have HFL := hid hfl
  have HYL := hid hyl
  have HS := hid hS
  have HI := hid hI
  clear hol hfl hyl hS hI HBo
  -- the argument's block, at whatever world
  have HAa : Hid (∀ X, Below WA.heap.size WA X → X.heap[w.heap.size]? = some (.cells #[.slice ad bs.length cap, .int .i64 g1, .int .i64 g2, .int .i64 g3, .int .i64 g4, .int .i64 g5, .int .i64 g6, .int .i64 g7, .int .i64 g8, .int .i64 g9] 24)) := fun X hX => (hX.block w.heap.size (heap_lt HKA.out)).trans HKA.out
  have HKw : Hid (∀ X, Below WA.heap.size WA X → Below w.heap.size w X) := fun X hX => HBA.out.trans (hX.mono HBA.out.size)
  clear HKA HBA
  have b1 := HAa.out _ M1.out.below
  have q0 := cell_of_heap b1 0
  have q1 := cell_of_heap b1 1
  have q2 := cell_of_heap b1 2
  have q3 := cell_of_heap b1 3
  have q4 := cell_of_heap b1 4
  have q5 := cell_of_heap b1 5
  have q6 := cell_of_heap b1 6
  have q7 := cell_of_heap b1 7
  have q8 := cell_of_heap b1 8
  have q9 := cell_of_heap b1 9
  simp at q0 q1 q2 q3 q4 q5 q6 q7 q8 q9
  clear b1
  go_wp2_with fail
  refine (HTo.out _ (HKw.out _ M1.out.below) HL.out).mono ?_
  rintro e W2 ⟨⟨ga, rfl, hsa⟩, hb2⟩
  have M2 := hid (M1.out.keep hb2)
  have HSa := hid hsa
  clear hsa hb2 M1 q0 q1 q2 q3 q4 q5 q6 q7 q8 q9
  go_wp2_with fail
  refine (HTr.out _ (HKw.out _ M2.out.below) HX.out).mono ?_
  rintro e W2' ⟨⟨rr, rfl, hsr⟩, hb2'⟩
  have M2' := hid (M2.out.keep hb2')
  have HSa' := hid (HSa.out.below hb2')
  have HSr := hid hsr
  clear hsr hb2' M2 HSa
  have HOL2 : Hid (os.length ≤ 1048576) := Nat.le_trans HOL.out (by decide)
  have HFL2 : Hid (∀ i, i < os.length → (fieldsOf os i).length ≤ 1048576) := fun i hi => Nat.le_trans (HFL.out i hi) (by decide)
  have HYL2 : Hid (ys.length ≤ 1048576) := Nat.le_trans HYL.out (by decide)
  have HMk : Hid (∀ i, i ≤ os.length → 0 ≤ markAt 1 (fun i => (fieldsOf os i).length) i ∧ markAt 1 (fun i => (fieldsOf os i).length) i ≤ 1 + 6 * (i : Int)) := fun i hi => marks_small (fun j hj => HFL.out j hj) i hi
  have HMk2 : Hid (∀ i, i ≤ os.length → 0 ≤ markAt 1 (fun i => (fieldsOf os i).length) i ∧ markAt 1 (fun i => (fieldsOf os i).length) i ≤ 100000000) := fun i hi => ⟨(HMk.out i hi).1, by have := (HMk.out i hi).2; have := HOL.out; omega⟩
  have HMn : Hid (0 ≤ markAt 1 (fun i => (fieldsOf os i).length) os.length ∧ markAt 1 (fun i => (fieldsOf os i).length) os.length ≤ 1000000000) := ⟨(HMk2.out _ (Nat.le_refl _)).1, by have := (HMk2.out _ (Nat.le_refl _)).2; omega⟩
  go_wp2_with fail
  refine (HS.out _ _ _ _ _ HSa'.out HSr.out).mono ?_
  rintro e W3 ⟨⟨va, ua, fa, rfl, hob, hsu⟩, hb3⟩
  have hq := hob.row
  obtain ⟨ada, capa, rfl, _⟩ := hq
  have hq := hsu
  obtain ⟨adu, capu, rfl, _⟩ := hq
  have M3 := hid (M2'.out.add hb3 (T := fun X => ObR W2'.heap.size X (.slice ada os.length capa) os.length (kindOf os) fa (fun i => (fieldsOf os i).length) (fun i => intCells (fieldsOf os i)) ∧ SliceR 3 1 W2'.heap.size X (.slice adu ys.length capu) ys.length (intCells ys)) ((fact_objs _ _ (fun q hq => (hob.lo hq).2)).and (fact_slice _ (fun h0 q e => by obtain ⟨g, e1, -, h2⟩ := hsu.block h0; rw [e1] at e; cases e; exact h2))) ⟨hob, hsu⟩)
  clear hob hsu hb3 M2' HS HSa' HSr
  generalize W2'.heap.size = lo2 at *
  have b3 := HAa.out _ M3.out.below
  have q0 := cell_of_heap b3 0
  have q1 := cell_of_heap b3 1
  have q2 := cell_of_heap b3 2
  have q3 := cell_of_heap b3 3
  have q4 := cell_of_heap b3 4
  have q5 := cell_of_heap b3 5
  have q6 := cell_of_heap b3 6
  have q7 := cell_of_heap b3 7
  have q8 := cell_of_heap b3 8
  have q9 := cell_of_heap b3 9
  simp at q0 q1 q2 q3 q4 q5 q6 q7 q8 q9
  clear b3
  go_wp2_with fail
  refine (HTo.out _ (HKw.out _ M3.out.below) HL.out).mono ?_
  rintro e W4 ⟨⟨gx, rfl, hsx⟩, hb4⟩
  have HU4 : Hid (bs.length ≠ 0 → ∀ q, (Value.slice (some ⟨gx, 0, none⟩) bs.length bs.length).ownBlock = some q → q < W4.heap.size) := fun h0 q e => by obtain ⟨g, e1, -, h2⟩ := hsx.block h0; rw [e1] at e; cases e; exact h2
  have M4 := hid (M3.out.slice hb4 hsx)
  clear hsx hb4 M3 q0 q1 q2 q3 q4 q5 q6 q7 q8 q9
  have M5 := hid (M4.out.lay (.slice (some ⟨gx, 0, none⟩) bs.length bs.length) ⟨g1, g2, g3, g4, g5, g6, g7, g8, g9⟩)
  go_wp2_with fail
  refine (HTr.out _ (HKw.out _ M5.out.below) HX.out).mono ?_
  rintro e W5 ⟨⟨rr, rfl, hsr⟩, hb5⟩
  have HU5 : Hid (xs.length ≠ 0 → ∀ q, (Value.slice (some ⟨rr, 0, none⟩) xs.length xs.length).ownBlock = some q → q < W5.heap.size) := fun h0 q e => by obtain ⟨g, e1, -, h2⟩ := hsr.block h0; rw [e1] at e; cases e; exact h2
  have M5' := hid (M5.out.slice hb5 hsr)
  clear hsr hb5 M4 M5
  obtain ⟨c0, c1, c2, c3, c4, c5, c6, c7, c8, c9⟩ := (M5'.out.tells _ (List.mem_cons_of_mem _ List.mem_cons_self)).cells
  dsimp only at c0 c1 c2 c3 c4 c5 c6 c7 c8 c9
  go_wp2_with fail
  refine (HI.out _ _ _ _ _ (M5'.out.tells _ (List.mem_cons_of_mem _ (List.mem_cons_of_mem _ List.mem_cons_self))) (M5'.out.tells _ List.mem_cons_self)).mono ?_
  rintro e W6 ⟨⟨vg, ug, fg, rfl, hog, hsu, hoa, hap⟩, hb6⟩
  have hq := hog.row
  obtain ⟨adg, capg, rfl, _⟩ := hq
  have hq := hsu
  obtain ⟨adv, capv, rfl, _⟩ := hq
  have HUo : Hid (∀ q, ObB (.slice adg os.length capg) os.length fg (fun i => (fieldsOf os i).length) q → W5.heap.size ≤ q ∧ q < W6.heap.size) := fun q hq => hog.lo hq
  have HUs : Hid (ys.length ≠ 0 → ∀ q, (Value.slice adv ys.length capv).ownBlock = some q → W5.heap.size ≤ q ∧ q < W6.heap.size) := fun h0 q e => by obtain ⟨g, e1, h1, h2⟩ := hsu.block h0; rw [e1] at e; cases e; exact ⟨h1, h2⟩
  have HOa := hid hoa
  have HAp := hid hap
  have M6 := hid (M5'.out.add hb6 (T := fun X => ObR W5.heap.size X (.slice adg os.length capg) os.length (kindOf os) fg (fun i => (fieldsOf os i).length) (fun i => intCells (fieldsOf os i)) ∧ SliceR 3 1 W5.heap.size X (.slice adv ys.length capv) ys.length (intCells ys)) ((fact_objs _ _ (fun q hq => (HUo.out q hq).2)).and (fact_slice _ (fun h0 q e => (HUs.out h0 q e).2))) ⟨hog, hsu⟩)
  clear hog hsu hoa hap hb6 M5' c0 c1 c2 c3 c4 c5 c6 c7 c8 c9
  generalize W5.heap.size = lo5 at *
  generalize W6.heap.size = hi6 at *
  have hRR : (ok != ok) = false := by cases ok <;> rfl
  go_wp2_with fail
  refine (eqObjS_any (fieldsOf os) _ HOL2.out HFL2.out (M6.out.tells _ List.mem_cons_self).1 (M6.out.tells _ (List.mem_cons_of_mem _ (List.mem_cons_of_mem _ (List.mem_cons_of_mem _ (List.mem_cons_of_mem _ List.mem_cons_self))))).1).mono ?_
  rintro e W8 ⟨rfl, hb8⟩
  have M8' := hid (M6.out.keep hb8)
  clear M6 hb8
  go_wp2_with fail
  refine (eqIntS_any _ HYL2.out (M8'.out.tells _ List.mem_cons_self).2.intSlice (M8'.out.tells _ (List.mem_cons_of_mem _ (List.mem_cons_of_mem _ (List.mem_cons_of_mem _ (List.mem_cons_of_mem _ List.mem_cons_self))))).2.intSlice).mono ?_
  rintro e W8' ⟨rfl, hb8⟩
  have M8 := hid (M8'.out.keep hb8)
  clear M8' hb8
  go_wp2_with fail
  have b8 := HAa.out _ M8.out.below
  have hlt8 := heap_lt b8
  have q0 : ∀ y : Later W8'.heap.size W8', y.w.cell? ⟨w.heap.size, 0, none⟩ = _ := fun y => y.cell hlt8 (cell_of_heap b8 0)
  have q1 : ∀ y : Later W8'.heap.size W8', y.w.cell? ⟨w.heap.size, 1, none⟩ = _ := fun y => y.cell hlt8 (cell_of_heap b8 1)
  have q2 : ∀ y : Later W8'.heap.size W8', y.w.cell? ⟨w.heap.size, 2, none⟩ = _ := fun y => y.cell hlt8 (cell_of_heap b8 2)
  have q3 : ∀ y : Later W8'.heap.size W8', y.w.cell? ⟨w.heap.size, 3, none⟩ = _ := fun y => y.cell hlt8 (cell_of_heap b8 3)
  have q4 : ∀ y : Later W8'.heap.size W8', y.w.cell? ⟨w.heap.size, 4, none⟩ = _ := fun y => y.cell hlt8 (cell_of_heap b8 4)
  have q5 : ∀ y : Later W8'.heap.size W8', y.w.cell? ⟨w.heap.size, 5, none⟩ = _ := fun y => y.cell hlt8 (cell_of_heap b8 5)
  have q6 : ∀ y : Later W8'.heap.size W8', y.w.cell? ⟨w.heap.size, 6, none⟩ = _ := fun y => y.cell hlt8 (cell_of_heap b8 6)
  have q7 : ∀ y : Later W8'.heap.size W8', y.w.cell? ⟨w.heap.size, 7, none⟩ = _ := fun y => y.cell hlt8 (cell_of_heap b8 7)
  have q8 : ∀ y : Later W8'.heap.size W8', y.w.cell? ⟨w.heap.size, 8, none⟩ = _ := fun y => y.cell hlt8 (cell_of_heap b8 8)
  have q9 : ∀ y : Later W8'.heap.size W8', y.w.cell? ⟨w.heap.size, 9, none⟩ = _ := fun y => y.cell hlt8 (cell_of_heap b8 9)
  simp at q0 q1 q2 q3 q4 q5 q6 q7 q8 q9
  have hx8 := M8.out.tells _ (List.mem_cons_of_mem _ (List.mem_cons_of_mem _ List.mem_cons_self))
  dsimp only at hx8
  obtain ⟨v0, v1, v2, v3, v4, v5, v6, v7, v8, v9⟩ := HeapBlk.later (B := W8'.heap.size) hx8 (heap_lt hx8)
  dsimp only at v0 v1 v2 v3 v4 v5 v6 v7 v8 v9
  clear b8 hx8
  refine stage_begin (S := fun w' => ∃ x : Later W8'.heap.size W8', w' = x.w) (by kernel_rfl) ?_
  refine stage_walk (by kernel_rfl) 2 0 _ _ (by kernel_rfl) ⟨⟨W8'.drew, (Below.refl _ _).drew⟩, rfl⟩ ?_
  simp only [List.drop_zero, List.take_succ_cons, List.take_zero]
  repeat (go_big_quiet_step (fail))
  refine wpQuiet_nil ?_
  rintro w5 ⟨x1, rfl⟩
  refine stage_enter (k := 2) (f := 11) (args := #[.agg #[.slice ad bs.length cap, .int .i64 g1, .int .i64 g2, .int .i64 g3, .int .i64 g4, .int .i64 g5, .int .i64 g6, .int .i64 g7, .int .i64 g8, .int .i64 g9]]) rfl (by kernel_rfl) rfl (by simp [go_sem]) ?_
  refine (HTo.out _ ((HKw.out _ M8.out.below).trans (x1.h.mono (HKw.out _ M8.out.below).size)) HL.out).mono ?_
  rintro e W9 ⟨⟨g9', rfl, hs9⟩, hb9⟩
  have M9 := hid ((M8.out.keep x1.h).keep hb9)
  have HS9 := hid hs9
  have hL9 := x1.h.trans (hb9.mono x1.h.size)
  refine ⟨_, rfl, ⟨⟨W9, hL9⟩, rfl⟩, ?_⟩
  clear hs9 q0 q1 q2 q3 q4 q5 q6 q7 q8 q9 v0 v1 v2 v3 v4 v5 v6 v7 v8 v9
  refine stage_frame (by simp [go_sem]; exact rfl) ?_
  refine stage_class (S' := fun w' => ∃ y : Later W9.heap.size W9, w' = y.w) (fun w' ⟨y, hy⟩ => ⟨⟨w', hL9.trans ((hy ▸ y.h).mono hL9.size)⟩, rfl⟩) ?_
  refine stage_walk (by kernel_rfl) 2 3 _ _ (by kernel_rfl) ⟨⟨W9, Below.refl _ _⟩, rfl⟩ ?_
  simp only [List.drop_zero, List.drop_succ_cons, List.take_succ_cons, List.take_zero]
  repeat (go_big_quiet_step (first | (rename_i y; go_at_call 13; refine (eqHeap_calls ⟨g1, g2, g3, g4, g5, g6, g7, g8, g9⟩ _ HL.out ((M9.out.keep y.h).tells _ (List.mem_cons_of_mem _ (List.mem_cons_of_mem _ (List.mem_cons_of_mem _ List.mem_cons_self)))).intSlice (HS9.out.below y.h).intSlice).mono ?_; rintro e w5 ⟨rfl, hb5⟩; exact ⟨rfl, ⟨w5, y.h.trans (hb5.mono y.h.size)⟩, rfl⟩)))
  refine wpQuiet_nil ?_
  rintro w6 ⟨y, rfl⟩
  refine stage_end (by kernel_rfl) ?_
  have M10 := hid (M9.out.keep y.h)
  clear M8 M9 HS9 hL9 hb9
  generalize y.w = W10 at *
  go_wp2_with fail
  refine (HTr.out _ (HKw.out _ M10.out.below) HX.out).mono ?_
  rintro e W10' ⟨⟨r2, rfl, hsr⟩, hbr⟩
  have M10' := hid (M10.out.keep hbr)
  clear M10 hbr
  go_wp2_with fail
  refine (eqIntS_any _ HX.out (M10'.out.tells _ (List.mem_cons_of_mem _ List.mem_cons_self)).intSlice hsr.intSlice).mono ?_
  rintro e W11 ⟨rfl, hb11⟩
  have M11 := hid (M10'.out.keep hb11)
  clear M10' hb11 hsr
  obtain ⟨c0, c1, c2, c3, c4, c5, c6, c7, c8, c9⟩ := (M11.out.tells _ (List.mem_cons_of_mem _ (List.mem_cons_of_mem _ List.mem_cons_self))).cells
  dsimp only at c0 c1 c2 c3 c4 c5 c6 c7 c8 c9
  go_wp2_with fail
  refine (markHeap_any 1 (by constructor <;> decide) ⟨g1, g2, g3, g4, g5, g6, g7, g8, g9⟩ _ HL.out (M11.out.tells _ (List.mem_cons_of_mem _ (List.mem_cons_of_mem _ (List.mem_cons_of_mem _ List.mem_cons_self))))).mono ?_
  rintro e W12 ⟨rfl, hs12, W12', hb12, ht12⟩
  have M12 := hid (M11.out.mark [_, _, _] HU4.out hb12 ht12 hs12)
  clear M11 hs12 hb12 ht12 c0 c1 c2 c3 c4 c5 c6 c7 c8 c9
  have hk0 : Hid (0 ≤ 1 + (bs.length : Int) ∧ 1 + (bs.length : Int) ≤ 1000000000) := by have := HL.out; constructor <;> omega
  go_wp2_with fail
  refine (markIntS_any (1 + (bs.length : Int)) hk0 _ HX.out (M12.out.tells _ (List.mem_cons_of_mem _ List.mem_cons_self))).mono ?_
  rintro e W13 ⟨rfl, hs13, ht13⟩
  have M13 := hid (M12.out.mark [_] HU5.out (Below.refl _ _) ht13 hs13)
  clear M12 hs13 ht13
  have hm0 : ¬ (1 + (bs.length : Int) + (xs.length : Int) < 0) := by omega
  generalize 1 + (bs.length : Int) + (xs.length : Int) = kk at *
  go_wp2_with fail
  refine (eqObjS_any (fieldsOf os) _ HOL2.out HFL2.out (M13.out.tells _ List.mem_cons_self).1 (M13.out.tells _ (List.mem_cons_of_mem _ (List.mem_cons_of_mem _ (List.mem_cons_of_mem _ (List.mem_cons_of_mem _ List.mem_cons_self))))).1).mono ?_
  rintro e W14 ⟨rfl, hb14⟩
  have M14 := hid (M13.out.keep hb14)
  clear M13 hb14
  go_wp2_with fail
  refine (eqIntS_any _ HYL2.out (M14.out.tells _ List.mem_cons_self).2.intSlice (M14.out.tells _ (List.mem_cons_of_mem _ (List.mem_cons_of_mem _ (List.mem_cons_of_mem _ (List.mem_cons_of_mem _ List.mem_cons_self))))).2.intSlice).mono ?_
  rintro e W15 ⟨rfl, hb15⟩
  have M15 := hid (M14.out.keep hb15)
  clear M14 hb15
  go_wp2_with fail
  refine (markObjS_any 1 _ HOL2.out HFL2.out HMk2.out (M15.out.tells _ List.mem_cons_self).1 HOa.out).mono ?_
  rintro e W16 ⟨rfl, ho16, hc16⟩
  have M16 := hid (M15.out.chg [] hc16 HUo.out ((fact_objs _ _ (fun q hq => (HUo.out q hq).2)).and (fact_slice (t := 3) (sz := 1) (v := .slice adv ys.length capv) (n := ys.length) (intCells ys) (fun h0 q e => (HUs.out h0 q e).2))) ⟨ho16, (M15.out.tells _ List.mem_cons_self).2.chg hc16 (fun h0 q e hq => HAp.out q hq h0 e)⟩)
  clear M15 ho16 hc16
  go_wp2_with fail
  refine (markIntS_any _ HMn _ HYL2.out (M16.out.tells _ List.mem_cons_self).2).mono ?_
  rintro e W17 ⟨rfl, hs17, ht17⟩
  have M17 := hid (M16.out.chg [] (P := fun q => ys.length ≠ 0 ∧ (Value.slice adv ys.length capv).ownBlock = some q) (Chg.of_turned ht17 (fun q h0 e => ⟨h0, e⟩)) (fun q hq => HUs.out hq.1 q hq.2) ((fact_objs (fv := fg) (v := .slice adg os.length capg) (n := os.length) (ln := fun i => (fieldsOf os i).length) (markAt 1 (fun i => (fieldsOf os i).length)) (fun i => intMarks (markAt 1 (fun i => (fieldsOf os i).length) i + 1)) (fun q hq => (HUo.out q hq).2)).and (fact_slice _ (fun h0 q e => (HUs.out h0 q e).2))) ⟨(M16.out.tells _ List.mem_cons_self).1.chg (Chg.of_turned (P := fun q => ys.length ≠ 0 ∧ (Value.slice adv ys.length capv).ownBlock = some q) ht17 (fun q h0 e => ⟨h0, e⟩)) (fun q hq hq2 => HAp.out q hq hq2.1 hq2.2), hs17⟩)
  clear M16 hs17 ht17
  have HH : Hid (∀ W, ObR lo5 W (.slice adg os.length capg) os.length (markAt 1 (fun i => (fieldsOf os i).length)) fg (fun i => (fieldsOf os i).length) (fun i => intMarks (markAt 1 (fun i => (fieldsOf os i).length) i + 1)) → Calls Try.prog 32 #[.slice adg os.length capg, .int .i64 1] W fun e w' => e = .returned (.int .i64 (markAt 1 (fun i => (fieldsOf os i).length) os.length)) ∧ W = w') := fun W h => heldObjS_any 1 W HOL2.out HFL2.out HMk2.out h
  have HR : Hid (∀ W, SliceR 3 1 lo5 W (.slice adv ys.length capv) ys.length (intMarks (markAt 1 (fun i => (fieldsOf os i).length) os.length)) → Calls Try.prog 21 #[.slice adv ys.length capv, .int .i64 (markAt 1 (fun i => (fieldsOf os i).length) os.length)] W fun e w' => e = .returned (.int .i64 (markAt 1 (fun i => (fieldsOf os i).length) os.length + (ys.length : Int))) ∧ W = w') := fun W h => heldIntS_any _ HMn W HYL2.out h
  have hmm : ¬ (markAt 1 (fun i => (fieldsOf os i).length) os.length < 0) := by have := HMn.out.1; omega
  have hmn : ¬ (markAt 1 (fun i => (fieldsOf os i).length) os.length + (ys.length : Int) < 0) := by have := HMn.out.1; omega
  generalize markAt 1 (fun i => (fieldsOf os i).length) os.length + (ys.length : Int) = mn at *
  generalize markAt 1 (fun i => (fieldsOf os i).length) os.length = mm at *
  go_wp2_with fail
  refine (HH.out _ (M17.out.tells _ List.mem_cons_self).1).mono ?_
  rintro e _ ⟨rfl, rfl⟩
  go_wp2_with fail
  refine (HR.out _ (M17.out.tells _ List.mem_cons_self).2).mono ?_
  rintro e _ ⟨rfl, rfl⟩
  have b16 := HAa.out _ M17.out.below
  have q0 := cell_of_heap b16 0
  have q1 := cell_of_heap b16 1
  have q2 := cell_of_heap b16 2
  have q3 := cell_of_heap b16 3
  have q4 := cell_of_heap b16 4
  have q5 := cell_of_heap b16 5
  have q6 := cell_of_heap b16 6
  have q7 := cell_of_heap b16 7
  have q8 := cell_of_heap b16 8
  have q9 := cell_of_heap b16 9
  simp at q0 q1 q2 q3 q4 q5 q6 q7 q8 q9
  clear b16
  go_wp2_with fail
  refine (HTo.out _ (HKw.out _ M17.out.below) HL.out).mono ?_
  rintro e W19 ⟨⟨gy, rfl, hsy⟩, hb19⟩
  have M19 := hid (M17.out.keep hb19)
  have HSy := hid hsy
  clear hsy hb19 M17 q0 q1 q2 q3 q4 q5 q6 q7 q8 q9
  go_wp2_with fail
  refine (HTr.out _ (HKw.out _ M19.out.below) HX.out).mono ?_
  rintro e W20 ⟨⟨r3, rfl, hsr⟩, hb20⟩
  have M20 := hid (M19.out.keep hb20)
  have HSy' := hid (HSy.out.below hb20)
  have HSr := hid hsr
  clear hsr hb20 M19 HSy
  go_wp2_with fail
  refine (HI.out _ _ _ _ _ HSy'.out HSr.out).mono ?_
  rintro e W21 ⟨⟨vh, uh, fh, rfl, hoh, hsu, -, -⟩, hb21⟩
  have hq := hoh.row
  obtain ⟨adh, caph, rfl, _⟩ := hq
  have hq := hsu
  obtain ⟨adi, capi, rfl, _⟩ := hq
  have M21 := hid (M20.out.keep hb21)
  have HOh := hid hoh
  have HSu := hid hsu
  clear hoh hsu hb21 M20 HSy' HSr
  go_wp2_with fail
  refine (eqObjS_any (fieldsOf os) _ HOL2.out HFL2.out HOh.out (M21.out.tells _ (List.mem_cons_of_mem _ (List.mem_cons_of_mem _ (List.mem_cons_of_mem _ (List.mem_cons_of_mem _ List.mem_cons_self))))).1).mono ?_
  rintro e W23 ⟨rfl, hb23⟩
  have M23 := hid (M21.out.keep hb23)
  have HSu' := hid (HSu.out.below hb23)
  clear M21 hb23 HOh HSu
  go_wp2_with fail
  refine (eqIntS_any _ HYL2.out HSu'.out.intSlice (M23.out.tells _ (List.mem_cons_of_mem _ (List.mem_cons_of_mem _ (List.mem_cons_of_mem _ (List.mem_cons_of_mem _ List.mem_cons_self))))).2.intSlice).mono ?_
  rintro e W24 ⟨rfl, hb24⟩
  have M24 := hid (M23.out.keep hb24)
  clear M23 hb24 HSu'
  go_wp2_with fail
  refine (HH.out _ (M24.out.tells _ List.mem_cons_self).1).mono ?_
  rintro e _ ⟨rfl, rfl⟩
  go_wp2_with fail
  refine (HR.out _ (M24.out.tells _ List.mem_cons_self).2).mono ?_
  rintro e _ ⟨rfl, rfl⟩
  go_wp2_with fail
  go_ret
  exact ⟨rfl, HKw.out _ M24.out.below⟩
set_option maxRecDepth 100000 in
theorem lifted (os : Os) (started : os.Started) (H : Type) (enc : TypeId × Value → H) :
    ReturnsInHanded {} Try.checked os 8 .any (Rows.fnExactHeapGraphSpec.pre6 enc Try.prog Try.f8 Rows.fnExactHeapGraphRow.domain false) (Rows.fnExactHeapGraphSpec.post enc Try.prog Try.f8 false true false false) := by
  refine returnsInHanded_of_change (C := Try.checked) own started (by kernel_rfl) Try.func8
    (ChangeSpec.witness6 (enc := enc) (C := Try.checked) false ⟨#[], #[.agg #[.slice none 0 0, .int .i64 0, .int .i64 0, .int .i64 0, .int .i64 0, .int .i64 0, .int .i64 0, .int .i64 0, .int .i64 0, .int .i64 0], .slice none 0 0], []⟩ 8 (by kernel_rfl) (by kernel_rfl) (by kernel_rfl) (by kernel_rfl)) ?_
  intro W base args ds gs before hval0 hW hcnd _
  have hval : ∀ (j : Nat) t v, Try.f8.params[j]? = some t → args[j]? = some v → Value.okWide Try.prog W .any base t v := hval0
  have hW' := hW
  obtain ⟨p, q, hA0, hV, rfl, hfz, hnd⟩ := hW
  have hA : DataW.TrodAll enc Try.prog W 0 (fun _ => true) true Try.f8.params.toList args.toList ds p := hA0
  rw [Try.params8] at hA hval
  obtain ⟨v0, vs0, d0, ds0, p0, q0, hargs, rfl, rfl, h0, r0⟩ := trodAll_cons hA
  obtain ⟨v1, vs1, d1, ds1, p1, q1, hargs1, rfl, rfl, h1, r1⟩ := trodAll_cons r0
  obtain ⟨rfl, rfl, rfl⟩ := trodAll_nil r1
  subst hargs1
  obtain rfl : args = #[v0, v1] := by cases args; simp_all
  obtain ⟨rfl, rfl⟩ := trodVars_none hV
  clear hA0 hval0
  simp only [List.append_nil] at hW'
  have hlt : ∀ y ∈ p0, y.block < W.heap.size := fun y hy => by simpa using hW'.lt y (by simp [hy])
  have hlt1 : ∀ y ∈ p1, y.block < W.heap.size := fun y hy => by simpa using hW'.lt y (by simp [hy])
  have h1k := h1
  obtain ⟨fuel1, hf1⟩ := h1
  obtain ⟨ar, lr, cr, rfl⟩ := okWide_slice Try.underlying22 (hval 1 22 v1 rfl rfl)
  obtain ⟨xs, hX, hXM⟩ := open_intS (by simpa [Value.cells] using hf1)
  have h0k := h0
  obtain ⟨fuel, hf⟩ := h0
  obtain ⟨cs, rfl, hcs⟩ := okWide_struct Try.underlying24 (hval 0 24 v0 rfl rfl)
  obtain ⟨v, bs, n, hc, hB, hM, -⟩ := open_heapT (by simpa [Value.cells] using hf)
  obtain rfl : cs = #[v, .int .i64 n.size, .int .i64 n.to, .int .i64 n.bottom, .int .i64 n.top, .int .i64 n.scan, .int .i64 n.fb, .int .i64 n.ft, .int .i64 n.flips, .int .i64 n.touched] := by cases cs; simp_all
  refine (walk n W hB hX hM hXM).mono fun e W' ⟨he, hg⟩ => ?_
  subst he
  refine ⟨_, rfl, _, _, _, [], p0 ++ p1, [], hW', ?_, ?_, rfl, hg.frame _, fun h => by cases h⟩
  · exact trodAll_cons_mk (shut_bool Try.underlying4 _) trodAll_mk0
  · have e := trodAll_cons_mk (Below.trod laidOut (by kernel_rfl) (of_decide_eq_true (by kernel_rfl)) h0k hg hlt) (trodAll_cons_mk (Below.trod laidOut (by kernel_rfl) (of_decide_eq_true (by kernel_rfl)) h1k hg hlt1) trodAll_mk0)
    rw [List.append_nil] at e
    exact e

theorem over : Rows.fnExactHeapGraphRow.holds Try.pinned (OpenSpec.ofChange Rows.fnExactHeapGraphSpec) :=
  OpenClaim.holds_of_wide 8 Try.f8 rfl rfl rfl rfl rfl rfl rfl ⟨rfl, rfl, rfl, rfl, rfl⟩ rfl rfl rfl rfl rfl (by kernel_rfl) Try.func8 (by kernel_rfl)
    (of_decide_eq_true (by kernel_rfl)) (by unfold Func.isWrapper; first | (rw [if_pos (by decide +kernel)]; kernel_rfl) | (rw [if_neg (by decide +kernel)]; exact ⟨rfl, rfl⟩))
    (fun os started H enc _ => lifted os started H enc)

theorem proved : Rows.FnExactHeapGraphSaid :=
  over
#print axioms proved
end Go.Proofs.Ytnoobonlmfgfhaa.fnExactHeapGraph
