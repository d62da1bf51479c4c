/- At every size the program makes the heap, and tells the same, as the specification; its answer is memory of its own; no condition. -/
import Derived.Test.YtbfffjnfbahiiaaHeapNewWalks
import Derived.Test.YtbfffjnfbahiiaaHeapMem
import Derived.OpenShut
namespace Go.Proofs.Ytbfffjnfbahiiaa.fnExactHeapNew
open Go.ChangeShapes Go.WideShapes Go.ChangeAt Go.RowKit
set_option linter.unusedVariables false

theorem own : ownKnob Try.prog.godebug = none := by kernel_rfl

theorem noSlice (B : Nat) (w : World) (F : Nat → Value) : SliceR 3 1 B w (.slice none 0 0) 0 F := ⟨none, 0, rfl, Or.inl rfl⟩

theorem both (s : Int) : ∃ ok n h, n ≤ 8000 ∧ (∀ w, Calls Try.prog 19 #[.int .i64 s] w fun e w' => (∃ v, e = .returned (.tuple #[heapV v h, .bool ok]) ∧ SliceR 3 1 w.heap.size w' v (List.replicate n (0 : Int)).length (intCells (List.replicate n 0))) ∧ Below w.heap.size w w') ∧
    ∀ w, Calls Try.prog 20 #[.int .i64 s] w fun e w' => (∃ v, e = .returned (.tuple #[heapV v h, .bool ok]) ∧ SliceR 3 1 w.heap.size w' v (List.replicate n (0 : Int)).length (intCells (List.replicate n 0))) ∧ Below w.heap.size w w' := by
  by_cases hs : 20 ≤ s ∧ s ≤ 4000
  · obtain ⟨k, rfl⟩ := Int.eq_ofNat_of_zero_le (show 0 ≤ s by omega)
    exact ⟨true, 2 * k, newHeap k, by omega, fun w => specNew_ok k w (by omega) (by omega), fun w => implNew_ok k w (by omega) (by omega)⟩
  · refine ⟨false, 0, ⟨0, 0, 0, 0, 0, 0, 0, 0, 0⟩, by omega, fun w => (specNew_bad s w hs).mono ?_, fun w => (implNew_bad s w hs).mono ?_⟩
    all_goals
      rintro e w' ⟨rfl, hb⟩
      exact ⟨⟨_, rfl, noSlice _ _ _⟩, hb⟩

set_option maxHeartbeats 2000000 in
set_option maxRecDepth 100000 in
theorem walk (a0 : Int) (w : World) :
    Calls Try.prog 8 #[.int .i64 a0] w fun e w' => e = .returned (.bool true) ∧ Below w.heap.size w w' := by
  obtain ⟨ok, n, h, hn, hS, hI⟩ := both a0
  have HS := hid hS
  have HI := hid hI
  have hl : (List.replicate n (0 : Int)).length ≤ 1048576 := by simp; omega
  clear hS hI hn
  generalize List.replicate n (0 : Int) = ans at *
  have HL := hid hl
  clear hl
  go_enter Try.func8, Try.ntmps8
  go_wp2_with fail
  refine (HS.out _).mono ?_
  rintro e W1 ⟨⟨va, rfl, hsa⟩, hb1⟩
  have hq := hsa
  obtain ⟨ada, capa, rfl, _⟩ := hq
  have M1 := hid ((Mem.start w).more hb1 ⟨_, _, _⟩ hsa)
  clear hsa hb1 HS
  obtain ⟨h1, h2, h3, h4, h5, h6, h7, h8, h9⟩ := h
  unfold heapV
  dsimp only
  go_wp2_with fail
  have M1' := hid (M1.out.lay (.slice ada ans.length capa) ⟨h1, h2, h3, h4, h5, h6, h7, h8, h9⟩)
  refine (HI.out _).mono ?_
  rintro e W2 ⟨⟨vb, rfl, hsb⟩, hb2⟩
  have hq := hsb
  obtain ⟨adb, capb, rfl, _⟩ := hq
  have M2 := hid (M1'.out.more hb2 ⟨_, _, _⟩ hsb)
  have hlt : W1.heap.size < W2.heap.size := by have := hb2.size; simp at this; omega
  clear hsb hb2 M1 M1'
  unfold heapV
  dsimp only
  obtain ⟨c0, c1, c2, c3, c4, c5, c6, c7, c8, c9⟩ := (M2.out.blocks _ List.mem_cons_self).1.cells
  dsimp only at c0 c1 c2 c3 c4 c5 c6 c7 c8 c9
  go_wp2_with fail
  have M2' := hid (M2.out.lay (.slice adb ans.length capb) ⟨h1, h2, h3, h4, h5, h6, h7, h8, h9⟩)
  refine (eqHeap_calls ⟨h1, h2, h3, h4, h5, h6, h7, h8, h9⟩ _ HL.out (M2'.out.slices _ List.mem_cons_self).intSlice (M2'.out.slices _ (List.mem_cons_of_mem _ List.mem_cons_self)).intSlice).mono ?_
  rintro e W3 ⟨rfl, hb3⟩
  have M3 := hid (M2'.out.keep hb3)
  clear M2 M2' c0 c1 c2 c3 c4 c5 c6 c7 c8 c9 hb3
  obtain ⟨c0, c1, c2, c3, c4, c5, c6, c7, c8, c9⟩ := (M3.out.blocks _ List.mem_cons_self).1.cells
  dsimp only at c0 c1 c2 c3 c4 c5 c6 c7 c8 c9
  cases ok
  all_goals
    go_wp2_with fail
    refine (markHeap_any 1 (by constructor <;> decide) ⟨h1, h2, h3, h4, h5, h6, h7, h8, h9⟩ _ HL.out (M3.out.slices _ List.mem_cons_self)).mono ?_
    rintro e W5 ⟨rfl, hs5, W4, hb4, ht5⟩
    have M5 := hid (M3.out.mark hb4 ht5 hs5)
    clear M3 hs5 hb4 ht5 c0 c1 c2 c3 c4 c5 c6 c7 c8 c9
    obtain ⟨c0, c1, c2, c3, c4, c5, c6, c7, c8, c9⟩ := (M5.out.blocks _ List.mem_cons_self).1.cells
    dsimp only at c0 c1 c2 c3 c4 c5 c6 c7 c8 c9
    have HH : Hid (∀ W, SliceR 3 1 w.heap.size W (.slice adb ans.length capb) ans.length (intMarks 1) → Calls Try.prog 23 #[heapV (.slice adb ans.length capb) ⟨h1, h2, h3, h4, h5, h6, h7, h8, h9⟩, .int .i64 1] W fun e w' => e = .returned (.int .i64 (1 + (ans.length : Int))) ∧ Below W.heap.size W w') := fun W h => heldHeap_any 1 (by constructor <;> decide) _ W HL.out h
    have hm0 : (0 : Int) ≤ 1 + (ans.length : Int) := by omega
    generalize 1 + (ans.length : Int) = mm at *
    go_wp2_with fail
    refine (HH.out _ (M5.out.slices _ List.mem_cons_self)).mono ?_
    rintro e W6 ⟨rfl, hb6⟩
    have M6 := hid (M5.out.keep hb6)
    clear M5 hb6 c0 c1 c2 c3 c4 c5 c6 c7 c8 c9
    go_wp2_with fail
    refine (HI.out _).mono ?_
    rintro e W7 ⟨⟨vc, rfl, hsc⟩, hb7⟩
    have hq := hsc
    obtain ⟨adc, capc, rfl, _⟩ := hq
    have M7 := hid (M6.out.more hb7 ⟨_, _, _⟩ hsc)
    clear hsc hb7 M6
    unfold heapV
    dsimp only
    obtain ⟨c0, c1, c2, c3, c4, c5, c6, c7, c8, c9⟩ := (M7.out.blocks _ (List.mem_cons_of_mem _ List.mem_cons_self)).1.cells
    dsimp only at c0 c1 c2 c3 c4 c5 c6 c7 c8 c9
    have hlt7 : W1.heap.size < W7.heap.size := heap_lt (M7.out.blocks _ (List.mem_cons_of_mem _ List.mem_cons_self)).1
    go_wp2_with fail
    have M7' := hid (M7.out.lay (.slice adc ans.length capc) ⟨h1, h2, h3, h4, h5, h6, h7, h8, h9⟩)
    refine (eqHeap_calls ⟨h1, h2, h3, h4, h5, h6, h7, h8, h9⟩ _ HL.out (M7'.out.slices _ List.mem_cons_self).intSlice (M7'.out.slices _ (List.mem_cons_of_mem _ (List.mem_cons_of_mem _ List.mem_cons_self))).intSlice).mono ?_
    rintro e W8 ⟨rfl, hb8⟩
    have M8 := hid (M7'.out.keep hb8)
    clear M7 M7' c0 c1 c2 c3 c4 c5 c6 c7 c8 c9 hb8
    obtain ⟨c0, c1, c2, c3, c4, c5, c6, c7, c8, c9⟩ := (M8.out.blocks _ (List.mem_cons_of_mem _ List.mem_cons_self)).1.cells
    dsimp only at c0 c1 c2 c3 c4 c5 c6 c7 c8 c9
    go_wp2_with fail
    refine (HH.out _ (M8.out.slices _ (List.mem_cons_of_mem _ List.mem_cons_self))).mono ?_
    rintro e W9 ⟨rfl, hb9⟩
    have M9 := hid (M8.out.keep hb9)
    clear M8 hb9 c0 c1 c2 c3 c4 c5 c6 c7 c8 c9
    go_wp2_with fail
    go_ret
    exact ⟨rfl, M9.out.below⟩

set_option maxRecDepth 100000 in
theorem lifted (os : Os) (started : os.Started) (H : Type) (enc : TypeId × Value → H) :
    ReturnsInHanded {} Try.checked os 8 .any (Rows.fnExactHeapNewSpec.pre6 enc Try.prog Try.f8 Rows.fnExactHeapNewRow.domain false) (Rows.fnExactHeapNewSpec.post enc Try.prog Try.f8 false true false false) := by
  refine returnsInHanded_of_change (C := Try.checked) own started (by kernel_rfl) Try.func8
    (ChangeSpec.witness6 (enc := enc) (C := Try.checked) false ⟨#[], #[.int .i64 0], []⟩ 8 (by kernel_rfl) (by kernel_rfl) (by kernel_rfl) (by kernel_rfl)) ?_
  intro W base args ds gs before hval0 hW hcnd _
  have hval : ∀ (j : Nat) t v, Try.f8.params[j]? = some t → args[j]? = some v → Value.okWide Try.prog W .any base t v := hval0
  have hW' := hW
  obtain ⟨p, q, hA0, hV, rfl, hfz, hnd⟩ := hW
  have hA : DataW.TrodAll enc Try.prog W 0 (fun _ => true) true Try.f8.params.toList args.toList ds p := hA0
  rw [Try.params8] at hA hval
  obtain ⟨v0, vs0, d0, ds0, p0, q0, hargs, rfl, rfl, h0, r0⟩ := trodAll_cons hA
  obtain ⟨rfl, rfl, rfl⟩ := trodAll_nil r0
  obtain rfl : args = #[v0] := by cases args; simp_all
  obtain ⟨rfl, rfl⟩ := trodVars_none hV
  obtain ⟨a0, rfl, rfl, rfl, w0⟩ := open_int Try.underlying3 (hval 0 3 v0 rfl rfl) h0
  clear hA0 hval0
  simp only [List.append_nil] at hW'
  refine (walk a0 W).mono fun e W' ⟨he, hg⟩ => ?_
  subst he
  refine ⟨_, rfl, _, _, _, [], [], [], hW', ?_, ?_, rfl, hg.frame _, fun h => by cases h⟩
  · exact trodAll_cons_mk (shut_bool Try.underlying4 _) trodAll_mk0
  · exact trodAll_cons_mk (shut_int Try.underlying3 w0) trodAll_mk0

theorem over : Rows.fnExactHeapNewRow.holds Try.pinned (OpenSpec.ofChange Rows.fnExactHeapNewSpec) :=
  OpenClaim.holds_of_wide 8 Try.f8 rfl rfl rfl rfl rfl rfl rfl ⟨rfl, rfl, rfl, rfl, rfl⟩ rfl rfl rfl rfl rfl (by kernel_rfl) Try.func8 (by kernel_rfl)
    (of_decide_eq_true (by kernel_rfl)) (by unfold Func.isWrapper; first | (rw [if_pos (by decide +kernel)]; kernel_rfl) | (rw [if_neg (by decide +kernel)]; exact ⟨rfl, rfl⟩))
    (fun os started H enc _ => lifted os started H enc)

theorem proved : Rows.FnExactHeapNewSaid :=
  over
#print axioms proved
end Go.Proofs.Ytbfffjnfbahiiaa.fnExactHeapNew
