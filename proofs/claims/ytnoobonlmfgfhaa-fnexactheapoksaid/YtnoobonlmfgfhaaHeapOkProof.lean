/- At every heap the program tells whether it may be as the specification does, and writes into nothing; no condition. -/
import Derived.Test.YtnoobonlmfgfhaaHeapSame
import Derived.Test.YtnoobonlmfgfhaaImplHeapF
import Derived.Test.YtnoobonlmfgfhaaHeapArgs
import Derived.Deep.RegionHeld3
import Derived.OpenShut
namespace Go.Proofs.Ytnoobonlmfgfhaa.fnExactHeapOk
open Go.ChangeShapes Go.WideShapes Go.ChangeAt Go.RowKit

theorem own : ownKnob Try.prog.godebug = none := by kernel_rfl
theorem laidOut : laidOutB Try.prog = true := by kernel_rfl

/-- What both sides answer. -/
def heapOkZ (ws : List Int) (h : HpN) : Bool := if Ordered h ws.length then specOk ws h else false

theorem spec_any {B g : Nat} {bs : List Int} (h : HpN) (W : World) (hs : SliceR 3 1 B W (.slice (some ⟨g, 0, none⟩) bs.length bs.length) bs.length (intCells bs)) (hm : bs.length ≤ 1048576) :
    Calls Try.prog 10 #[heapV (.slice (some ⟨g, 0, none⟩) bs.length bs.length) h] W fun e w' => e = .returned (.bool (heapOkZ bs h)) ∧ Below W.heap.size W w' := by
  unfold heapOkZ
  by_cases ho : Ordered h bs.length
  · rw [if_pos ho]
    have h0 : bs.length ≠ 0 := by obtain ⟨o1, o2, o3, _⟩ := ho; omega
    obtain ⟨ad, cap, e, hh⟩ := hs
    obtain ⟨g', e2, hB, hr⟩ := hh.resolve_left h0
    cases e
    cases e2
    rw [Nat.mul_one] at hr
    exact specOk_calls g 0 bs.length bs.length bs h W rfl ho hr.lt (fun k hk => by rw [Nat.zero_add]; exact hr.cell hk)
  · rw [if_neg ho]
    exact specOk_bad _ _ _ h W hm ho

set_option maxRecDepth 100000 in
theorem impl_wrap {v : Value} {h : HpN} {W : World} {R : Bool} (H : ∀ w, Below W.heap.size W w → Calls Try.prog 40 #[heapV v h] w fun e w' => (∃ (a a' : Option Addr) (n c n' c' : Nat) (h' : HpN), e = .returned (.tuple #[layV (.slice a n c) h' (.slice a' n' c'), .bool R])) ∧ Below w.heap.size w w') :
    Calls Try.prog 12 #[heapV v h] W fun e w' => e = .returned (.bool R) ∧ Below W.heap.size W w' := by
  have HH := hid H
  clear H
  obtain ⟨g1, g2, g3, g4, g5, g6, g7, g8, g9⟩ := h
  unfold heapV at *
  dsimp only at *
  go_enter Try.func12, Try.ntmps12
  go_wp2_with fail
  have k0 := (Below.refl W.heap.size W).alloc (Nat.le_refl _) (.cells #[v, .int .i64 g1, .int .i64 g2, .int .i64 g3, .int .i64 g4, .int .i64 g5, .int .i64 g6, .int .i64 g7, .int .i64 g8, .int .i64 g9] 27)
  refine (HH.out _ k0).mono ?_
  rintro e W1 ⟨⟨a, a', n, c, n', c', ⟨i1, i2, i3, i4, i5, i6, i7, i8, i9⟩, rfl⟩, hb⟩
  unfold layV
  dsimp only
  have HB := hid (k0.trans (hb.mono k0.size))
  clear hb k0 HH
  go_wp2_with fail
  go_ret
  exact ⟨rfl, HB.out.alloc HB.out.size _⟩

theorem impl_any {B g : Nat} {bs : List Int} (h : HpN) (W : World) (hs : SliceR 3 1 B W (.slice (some ⟨g, 0, none⟩) bs.length bs.length) bs.length (intCells bs)) :
    Calls Try.prog 12 #[heapV (.slice (some ⟨g, 0, none⟩) bs.length bs.length) h] W fun e w' => e = .returned (.bool (heapOkZ bs h)) ∧ Below W.heap.size W w' := by
  refine impl_wrap (fun w hb => ?_)
  unfold heapOkZ
  by_cases ho : Ordered h bs.length
  · rw [if_pos ho, ok_same ho]
    have h0 : bs.length ≠ 0 := by obtain ⟨o1, o2, o3, _⟩ := ho; omega
    obtain ⟨ad, cap, e, hh⟩ := hs
    obtain ⟨g', e2, hB, hr⟩ := hh.resolve_left h0
    cases e
    cases e2
    rw [Nat.mul_one] at hr
    refine (layOut_calls g 0 bs.length bs.length bs h w rfl ho (Nat.le_refl _) (Nat.lt_of_lt_of_le hr.lt hb.size) (fun k hk => by rw [Nat.zero_add]; exact (hb.cell (p := ⟨g, k, none⟩) hr.lt).trans (hr.cell hk))).mono ?_
    rintro e w' ⟨hres, hb'⟩
    refine ⟨?_, hb'⟩
    rcases hres with ⟨e1, rfl⟩ | ⟨S, gb, _, e1, rfl, _⟩
    · rw [e1]
      exact ⟨_, _, _, _, _, _, _, rfl⟩
    · rw [e1]
      exact ⟨_, _, _, _, _, _, _, rfl⟩
  · rw [if_neg ho]
    refine (layOut_bad _ _ _ h w ho).mono ?_
    rintro e w' ⟨rfl, hb'⟩
    exact ⟨⟨_, _, _, _, _, _, _, rfl⟩, hb'⟩

set_option maxHeartbeats 4000000 in
set_option maxRecDepth 100000 in
theorem walk {v : Value} {bs : List Int} (h : HpN) (w : World) (hv : IntSlice w v bs) (hm : bs.length ≤ maxLen) :
    Calls Try.prog 3 #[heapV v h] w fun e w' => e = .returned (.bool true) ∧ Below w.heap.size w w' := by
  have HSz := hid (fun (w' : World) (hb : Below w.heap.size w w') => szHeap_calls h w' (hv.below hb) hm)
  have HTo := hid (fun (w' : World) (hb : Below w.heap.size w w') (hm' : bs.length ≤ 1048576) => toHeap_calls h w' (hv.below hb) hm')
  have HSp := hid (fun (B g : Nat) (W : World) hs hm' => spec_any (B := B) (g := g) (bs := bs) h W hs hm')
  have HIm := hid (fun (B g : Nat) (W : World) hs => impl_any (B := B) (g := g) (bs := bs) h W hs)
  generalize heapOkZ bs h = R at *
  have hRR : (R != R) = false := by cases R <;> rfl
  obtain ⟨ad, cap, rfl, _⟩ := hv
  obtain ⟨g1, g2, g3, g4, g5, g6, g7, g8, g9⟩ := h
  unfold heapV at *
  dsimp only at *
  clear hm
  have hkA := (MapKept.heap_alloc w (.cells #[.slice ad bs.length cap, .int .i64 g1, .int .i64 g2, .int .i64 g3, .int .i64 g4, .int .i64 g5, .int .i64 g6, .int .i64 g7, .int .i64 g8, .int .i64 g9] 24)).1
  have hbA := (Below.refl w.heap.size w).alloc (Nat.le_refl _) (.cells #[.slice ad bs.length cap, .int .i64 g1, .int .i64 g2, .int .i64 g3, .int .i64 g4, .int .i64 g5, .int .i64 g6, .int .i64 g7, .int .i64 g8, .int .i64 g9] 24)
  have HKA := hid hkA
  have HBA := hid hbA
  clear hkA hbA
  go_enter Try.func3, Try.ntmps3
  go_wp2_with fail
  refine (HSz.out _ HBA.out).mono ?_
  rintro e W1 ⟨⟨r, rfl, hr⟩, hb1⟩
  have k1 := HBA.out.trans (hb1.mono HBA.out.size)
  have b1 := (hb1.block w.heap.size (by simp)).trans HKA.out
  clear hb1 HSz HBA HKA
  by_cases hneg : r < 0
  · go_wp2_with fail
    go_ret
    exact ⟨rfl, k1⟩
  have HL := hid (hr.resolve_left hneg).2
  clear hr
  have q0 := cell_of_heap b1 0
  have q1 := cell_of_heap b1 1
  have q2 := cell_of_heap b1 2
  have q3 := cell_of_heap b1 3
  have q4 := cell_of_heap b1 4
  have q5 := cell_of_heap b1 5
  have q6 := cell_of_heap b1 6
  have q7 := cell_of_heap b1 7
  have q8 := cell_of_heap b1 8
  have q9 := cell_of_heap b1 9
  simp at q0 q1 q2 q3 q4 q5 q6 q7 q8 q9
  go_wp2_with fail
  refine (HTo.out _ k1 HL.out).mono ?_
  rintro e W2 ⟨⟨ga, rfl, hsa⟩, hb2⟩
  have k2 := k1.trans (hb2.mono k1.size)
  have b2 := (hb2.block w.heap.size (heap_lt b1)).trans b1
  have HA := hid hsa
  clear hsa hb2 k1 b1
  clear q0 q1 q2 q3 q4 q5 q6 q7 q8 q9
  go_wp2_with fail
  refine (HSp.out _ _ _ HA.out HL.out).mono ?_
  rintro e W3 ⟨rfl, hb3⟩
  have k3 := k2.trans (hb3.mono k2.size)
  have b3 := (hb3.block w.heap.size (heap_lt b2)).trans b2
  clear hb3 k2 b2 HA HSp
  have q0 := cell_of_heap b3 0
  have q1 := cell_of_heap b3 1
  have q2 := cell_of_heap b3 2
  have q3 := cell_of_heap b3 3
  have q4 := cell_of_heap b3 4
  have q5 := cell_of_heap b3 5
  have q6 := cell_of_heap b3 6
  have q7 := cell_of_heap b3 7
  have q8 := cell_of_heap b3 8
  have q9 := cell_of_heap b3 9
  simp at q0 q1 q2 q3 q4 q5 q6 q7 q8 q9
  go_wp2_with fail
  refine (HTo.out _ k3 HL.out).mono ?_
  rintro e W4 ⟨⟨gx, rfl, hsx⟩, hb4⟩
  have k4 := k3.trans (hb4.mono k3.size)
  have b4 := (hb4.block w.heap.size (heap_lt b3)).trans b3
  have HX := hid hsx
  clear hsx hb4 k3 b3
  clear q0 q1 q2 q3 q4 q5 q6 q7 q8 q9
  have hnew := HeapBlk.new W4 (.slice (some ⟨gx, 0, none⟩) bs.length bs.length) ⟨g1, g2, g3, g4, g5, g6, g7, g8, g9⟩
  have k5 := (Below.refl W4.heap.size W4).alloc (Nat.le_refl _) (.cells #[.slice (some ⟨gx, 0, none⟩) bs.length bs.length, .int .i64 g1, .int .i64 g2, .int .i64 g3, .int .i64 g4, .int .i64 g5, .int .i64 g6, .int .i64 g7, .int .i64 g8, .int .i64 g9] 27)
  have HNew := hid hnew
  have HK5 := hid k5
  clear hnew k5
  go_wp2_with fail
  refine (HIm.out _ _ _ (HX.out.below HK5.out)).mono ?_
  rintro e W6 ⟨rfl, hb6⟩
  have k46 := HK5.out.trans (hb6.mono HK5.out.size)
  have k6 := k4.trans (k46.mono k4.size)
  have b6 := (k46.block w.heap.size (heap_lt b4)).trans b4
  have x6 := HNew.out.below hb6
  have HX6 := hid ((HX.out.below HK5.out).below hb6)
  clear hb6 k46 k4 b4 HX HIm HK5 HNew
  have q0 := cell_of_heap b6 0
  have q1 := cell_of_heap b6 1
  have q2 := cell_of_heap b6 2
  have q3 := cell_of_heap b6 3
  have q4 := cell_of_heap b6 4
  have q5 := cell_of_heap b6 5
  have q6 := cell_of_heap b6 6
  have q7 := cell_of_heap b6 7
  have q8 := cell_of_heap b6 8
  have q9 := cell_of_heap b6 9
  simp at q0 q1 q2 q3 q4 q5 q6 q7 q8 q9
  obtain ⟨r0, r1, r2, r3, r4, r5, r6, r7, r8, r9⟩ := x6.cells
  dsimp only at r0 r1 r2 r3 r4 r5 r6 r7 r8 r9
  have hltx := heap_lt x6
  have hlta := heap_lt b6
  generalize W4.heap.size = Bx at *
  have HB6 := hid b6
  have HX6b := hid x6
  have HK6 := hid k6
  clear b6 x6 k6
  go_wp2_with fail
  go_region_held3 (fun w' => w'.cell? ⟨w.heap.size, 0, none⟩ = some (.slice ad bs.length cap) ∧ w'.cell? ⟨w.heap.size, 1, none⟩ = some (.int .i64 g1) ∧ w'.cell? ⟨w.heap.size, 2, none⟩ = some (.int .i64 g2) ∧ w'.cell? ⟨w.heap.size, 3, none⟩ = some (.int .i64 g3) ∧ w'.cell? ⟨w.heap.size, 4, none⟩ = some (.int .i64 g4) ∧ w'.cell? ⟨w.heap.size, 5, none⟩ = some (.int .i64 g5) ∧ w'.cell? ⟨w.heap.size, 6, none⟩ = some (.int .i64 g6) ∧ w'.cell? ⟨w.heap.size, 7, none⟩ = some (.int .i64 g7) ∧ w'.cell? ⟨w.heap.size, 8, none⟩ = some (.int .i64 g8) ∧ w'.cell? ⟨w.heap.size, 9, none⟩ = some (.int .i64 g9) ∧ w'.cell? ⟨Bx, 0, none⟩ = some (.slice (some ⟨gx, 0, none⟩) bs.length bs.length) ∧ w'.cell? ⟨Bx, 1, none⟩ = some (.int .i64 g1) ∧ w'.cell? ⟨Bx, 2, none⟩ = some (.int .i64 g2) ∧ w'.cell? ⟨Bx, 3, none⟩ = some (.int .i64 g3) ∧ w'.cell? ⟨Bx, 4, none⟩ = some (.int .i64 g4) ∧ w'.cell? ⟨Bx, 5, none⟩ = some (.int .i64 g5) ∧ w'.cell? ⟨Bx, 6, none⟩ = some (.int .i64 g6) ∧ w'.cell? ⟨Bx, 7, none⟩ = some (.int .i64 g7) ∧ w'.cell? ⟨Bx, 8, none⟩ = some (.int .i64 g8) ∧ w'.cell? ⟨Bx, 9, none⟩ = some (.int .i64 g9)) (go_keep) (first | (go_at_call 11; refine (HTo.out _ HK6.out.drew HL.out).mono ?_; rintro e W7 ⟨⟨g7', rfl, hs7⟩, hb7⟩; have q0' := (hb7.cell (p := ⟨w.heap.size, 0, none⟩) hlta).trans q0; have q1' := (hb7.cell (p := ⟨w.heap.size, 1, none⟩) hlta).trans q1; have q2' := (hb7.cell (p := ⟨w.heap.size, 2, none⟩) hlta).trans q2; have q3' := (hb7.cell (p := ⟨w.heap.size, 3, none⟩) hlta).trans q3; have q4' := (hb7.cell (p := ⟨w.heap.size, 4, none⟩) hlta).trans q4; have q5' := (hb7.cell (p := ⟨w.heap.size, 5, none⟩) hlta).trans q5; have q6' := (hb7.cell (p := ⟨w.heap.size, 6, none⟩) hlta).trans q6; have q7' := (hb7.cell (p := ⟨w.heap.size, 7, none⟩) hlta).trans q7; have q8' := (hb7.cell (p := ⟨w.heap.size, 8, none⟩) hlta).trans q8; have q9' := (hb7.cell (p := ⟨w.heap.size, 9, none⟩) hlta).trans q9; have r0' := (hb7.cell (p := ⟨Bx, 0, none⟩) hltx).trans r0; have r1' := (hb7.cell (p := ⟨Bx, 1, none⟩) hltx).trans r1; have r2' := (hb7.cell (p := ⟨Bx, 2, none⟩) hltx).trans r2; have r3' := (hb7.cell (p := ⟨Bx, 3, none⟩) hltx).trans r3; have r4' := (hb7.cell (p := ⟨Bx, 4, none⟩) hltx).trans r4; have r5' := (hb7.cell (p := ⟨Bx, 5, none⟩) hltx).trans r5; have r6' := (hb7.cell (p := ⟨Bx, 6, none⟩) hltx).trans r6; have r7' := (hb7.cell (p := ⟨Bx, 7, none⟩) hltx).trans r7; have r8' := (hb7.cell (p := ⟨Bx, 8, none⟩) hltx).trans r8; have r9' := (hb7.cell (p := ⟨Bx, 9, none⟩) hltx).trans r9) | (go_at_call 13; refine (eqHeap_calls ⟨g1, g2, g3, g4, g5, g6, g7, g8, g9⟩ _ HL.out (SliceR.below (w := W6.drew) HX6.out hb7).intSlice hs7.intSlice).mono ?_; rintro e W8 ⟨rfl, hb8⟩; have hlta7 := Nat.lt_of_lt_of_le hlta hb7.size; have hltx7 := Nat.lt_of_lt_of_le hltx hb7.size; have q0'' := (hb8.cell (p := ⟨w.heap.size, 0, none⟩) hlta7).trans q0'; have q1'' := (hb8.cell (p := ⟨w.heap.size, 1, none⟩) hlta7).trans q1'; have q2'' := (hb8.cell (p := ⟨w.heap.size, 2, none⟩) hlta7).trans q2'; have q3'' := (hb8.cell (p := ⟨w.heap.size, 3, none⟩) hlta7).trans q3'; have q4'' := (hb8.cell (p := ⟨w.heap.size, 4, none⟩) hlta7).trans q4'; have q5'' := (hb8.cell (p := ⟨w.heap.size, 5, none⟩) hlta7).trans q5'; have q6'' := (hb8.cell (p := ⟨w.heap.size, 6, none⟩) hlta7).trans q6'; have q7'' := (hb8.cell (p := ⟨w.heap.size, 7, none⟩) hlta7).trans q7'; have q8'' := (hb8.cell (p := ⟨w.heap.size, 8, none⟩) hlta7).trans q8'; have q9'' := (hb8.cell (p := ⟨w.heap.size, 9, none⟩) hlta7).trans q9'; have r0'' := (hb8.cell (p := ⟨Bx, 0, none⟩) hltx7).trans r0'; have r1'' := (hb8.cell (p := ⟨Bx, 1, none⟩) hltx7).trans r1'; have r2'' := (hb8.cell (p := ⟨Bx, 2, none⟩) hltx7).trans r2'; have r3'' := (hb8.cell (p := ⟨Bx, 3, none⟩) hltx7).trans r3'; have r4'' := (hb8.cell (p := ⟨Bx, 4, none⟩) hltx7).trans r4'; have r5'' := (hb8.cell (p := ⟨Bx, 5, none⟩) hltx7).trans r5'; have r6'' := (hb8.cell (p := ⟨Bx, 6, none⟩) hltx7).trans r6'; have r7'' := (hb8.cell (p := ⟨Bx, 7, none⟩) hltx7).trans r7'; have r8'' := (hb8.cell (p := ⟨Bx, 8, none⟩) hltx7).trans r8'; have r9'' := (hb8.cell (p := ⟨Bx, 9, none⟩) hltx7).trans r9'))
  all_goals
    have k7 := HK6.out.drew.trans (hb7.mono HK6.out.size)
    have k8 := hid (k7.trans (hb8.mono k7.size))
    clear k7 hb7 hb8 hs7 q0 q0' q0'' r0 r0' r0'' q1 q1' q1'' r1 r1' r1'' q2 q2' q2'' r2 r2' r2'' q3 q3' q3'' r3 r3' r3'' q4 q4' q4'' r4 r4' r4'' q5 q5' q5'' r5 r5' r5'' q6 q6' q6'' r6 r6' r6'' q7 q7' q7'' r7 r7' r7'' q8 q8' q8'' r8 r8' r8'' q9 q9' q9'' r9 r9' r9''
    go_wp2_with fail
    go_ret
    exact ⟨rfl, k8.out⟩

set_option maxRecDepth 100000 in
theorem lifted (os : Os) (started : os.Started) (H : Type) (enc : TypeId × Value → H) :
    ReturnsInHanded {} Try.checked os 3 .any (Rows.fnExactHeapOkSpec.pre6 enc Try.prog Try.f3 Rows.fnExactHeapOkRow.domain false) (Rows.fnExactHeapOkSpec.post enc Try.prog Try.f3 false true false false) := by
  refine returnsInHanded_of_change (C := Try.checked) own started (by kernel_rfl) Try.func3
    (ChangeSpec.witness6 (enc := enc) (C := Try.checked) false ⟨#[], #[.agg #[.slice none 0 0, .int .i64 0, .int .i64 0, .int .i64 0, .int .i64 0, .int .i64 0, .int .i64 0, .int .i64 0, .int .i64 0, .int .i64 0]], []⟩ 8 (by kernel_rfl) (by kernel_rfl) (by kernel_rfl) (by kernel_rfl)) ?_
  intro W base args ds gs before hval0 hW hcnd _
  have hval : ∀ (j : Nat) t v, Try.f3.params[j]? = some t → args[j]? = some v → Value.okWide Try.prog W .any base t v := hval0
  have hW' := hW
  obtain ⟨p, q, hA0, hV, rfl, hfz, hnd⟩ := hW
  have hA : DataW.TrodAll enc Try.prog W 0 (fun _ => true) true Try.f3.params.toList args.toList ds p := hA0
  rw [Try.params3] at hA hval
  obtain ⟨v0, vs0, d0, ds0, p0, q0, hargs, rfl, rfl, h0, r0⟩ := trodAll_cons hA
  obtain ⟨rfl, rfl, rfl⟩ := trodAll_nil r0
  obtain rfl : args = #[v0] := by cases args; simp_all
  obtain ⟨rfl, rfl⟩ := trodVars_none hV
  clear hA0 hval0
  simp only [List.append_nil] at hW'
  have hlt : ∀ y ∈ p0, y.block < W.heap.size := fun y hy => by simpa using hW'.lt y (by simpa using hy)
  have h0k := h0
  obtain ⟨fuel, hf⟩ := h0
  obtain ⟨cs, rfl, hcs⟩ := okWide_struct Try.underlying24 (hval 0 24 v0 rfl rfl)
  obtain ⟨v, bs, n, hc, hB, hM⟩ := open_heap (by simpa [Value.cells] using hf)
  obtain rfl : cs = #[v, .int .i64 n.size, .int .i64 n.to, .int .i64 n.bottom, .int .i64 n.top, .int .i64 n.scan, .int .i64 n.fb, .int .i64 n.ft, .int .i64 n.flips, .int .i64 n.touched] := by cases cs; simp_all
  refine (walk n W hB hM).mono fun e W' ⟨he, hg⟩ => ?_
  subst he
  refine ⟨_, rfl, _, _, _, [], p0, [], hW', ?_, ?_, rfl, hg.frame _, fun h => by cases h⟩
  · exact trodAll_cons_mk (shut_bool Try.underlying4 _) trodAll_mk0
  · exact trodAll_mk1 (Below.trod laidOut (by kernel_rfl) (of_decide_eq_true (by kernel_rfl)) h0k hg hlt)

theorem over : Rows.fnExactHeapOkRow.holds Try.pinned (OpenSpec.ofChange Rows.fnExactHeapOkSpec) :=
  OpenClaim.holds_of_wide 3 Try.f3 rfl rfl rfl rfl rfl rfl rfl ⟨rfl, rfl, rfl, rfl, rfl⟩ rfl rfl rfl rfl rfl (by kernel_rfl) Try.func3 (by kernel_rfl)
    (of_decide_eq_true (by kernel_rfl)) (by unfold Func.isWrapper; first | (rw [if_pos (by decide +kernel)]; kernel_rfl) | (rw [if_neg (by decide +kernel)]; exact ⟨rfl, rfl⟩))
    (fun os started H enc _ => lifted os started H enc)

theorem proved : Rows.FnExactHeapOkSaid :=
  over
#print axioms proved
end Go.Proofs.Ytnoobonlmfgfhaa.fnExactHeapOk
