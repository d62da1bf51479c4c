/- The law of the text of a report returns true, wherever the table of powers lies as the program lays it; how a report is handed in. -/
import Derived.Test.YtnoejhfpplddfaaDoorImplDrive
import Derived.Test.YtnoejhfpplddfaaDoorStagesE
namespace Go.Proofs.YtnoejhfpplddfaaDoor
open Go.RowKit

/-- Numbers of 64 bits, texts that a memory holds. -/
structure RpL (r : RpN) : Prop where
  fc : Long r.fc
  fa : Long r.fa
  cd : Long r.cd
  en : Long r.en

theorem sDrive_any {v : Value} {bs : List Int} (r : RpN) (w : World) (hv : IntSlice w v bs) (hm : bs.length ≤ 1048576) (hl : ∀ n ∈ bs, Long n) (hr : RpL r) (hty : r.ty.size ≤ 1048576) (hva : r.va.size ≤ 1048576) :
    Calls Tryd.prog 5 #[repV v r] w fun e w' => e = .returned (.string (tx (driveZ r bs))) ∧ Below w.heap.size w w' := by
  by_cases h1 : r.fc = 0
  · by_cases h2 : r.cd = 0
    · exact sDrive_run r w hv hm hl hr.en hty hva h1 h2
    · exact sDrive_type r w hv hr.cd h1 h2
  · exact sDrive_fault r w hv hr.fc hr.fa h1

theorem iDrive_any {g : Nat} {B : Nat} {bs : List Int} (r : RpN) (w : World) (hL : Laid w) (hs : SliceR 3 1 B w (.slice (some ⟨g, 0, none⟩) bs.length bs.length) bs.length (intCells bs)) (hm : bs.length ≤ 1048576) (hl : ∀ n ∈ bs, Long n) (hr : RpL r) (hty : r.ty.size ≤ 1048576) (hva : r.va.size ≤ 1048576) :
    Calls Tryd.prog 7 #[repV (.slice (some ⟨g, 0, none⟩) bs.length bs.length) r] w fun e w' => e = .returned (.string (tx (driveZ r bs))) ∧ Below w.heap.size w w' := by
  by_cases h1 : r.fc = 0
  · by_cases h2 : r.cd = 0
    · refine iDrive_run r w hL rfl (Nat.le_refl _) (fun k hk => ?_) hm hl hr.en hty hva h1 h2
      obtain ⟨ad, cap, e, hh⟩ := hs
      obtain ⟨g', e2, _, hrw⟩ := hh.resolve_left (by omega)
      cases e
      cases e2
      rw [Nat.mul_one] at hrw
      exact ⟨hrw.lt, hrw.cell hk⟩
    · exact iDrive_type r w hL hs.intSlice hr.cd h1 h2
  · exact iDrive_fault r w hL hs.intSlice hr.fc hr.fa h1

set_option maxHeartbeats 2000000 in
set_option maxRecDepth 100000 in
theorem driveWalk {v : Value} {bs : List Int} (r : RpN) (w : World) (hL : Laid w) (hv : IntSlice w v bs) (hm : bs.length ≤ maxLen) (hl : ∀ n ∈ bs, Long n) (hr : RpL r) (hty : r.ty.size ≤ maxLen) (hva : r.va.size ≤ maxLen) :
    Calls Tryd.prog 3 #[repV v r] w fun e w' => e = .returned (.bool true) ∧ Below w.heap.size w w' := by
  have HSz := hid (fun w' (hb : Below w.heap.size w w') => szReport_calls r w' (hv.below hb) hm (by unfold maxLen at hty; omega) (by unfold maxLen at hva; omega))
  have HTo := hid (fun w' (hb : Below w.heap.size w w') (h : bs.length ≤ 1048576) => toReport_calls r w' (hv.below hb) h)
  have HS := hid (fun (v : Value) w' (hv : IntSlice w' v bs) (h1 : bs.length ≤ 1048576) (h2 : r.ty.size ≤ 1048576) (h3 : r.va.size ≤ 1048576) => sDrive_any r w' hv h1 hl hr h2 h3)
  have HI := hid (fun (g B : Nat) w' (hL : Laid w') (hs : SliceR 3 1 B w' (.slice (some ⟨g, 0, none⟩) bs.length bs.length) bs.length (intCells bs)) (h1 : bs.length ≤ 1048576) (h2 : r.ty.size ≤ 1048576) (h3 : r.va.size ≤ 1048576) => iDrive_any r w' hL hs h1 hl hr h2 h3)
  have HE := hid (fun (v v' : Value) w' (h1 : bs.length ≤ 1048576) (hv : IntSlice w' v bs) (hv' : IntSlice w' v' bs) => eqReport_calls r w' h1 hv hv')
  have HLa := hid hL
  obtain ⟨R, hR⟩ : ∃ R, tx (driveZ r bs) = R := ⟨_, rfl⟩
  rw [hR] at HS HI
  obtain ⟨ad, cap, rfl, _⟩ := hv
  obtain ⟨fc, fa, ty, cd, ins, en, va, st, fl, to⟩ := r
  unfold repV at *
  dsimp only at *
  clear hm hl hr hty hva hL hR
  have hkA := (MapKept.heap_alloc w (.cells #[.int .i64 fc, .int .i64 fa, .string ty, .int .i64 cd, .int .i64 ins, .int .i64 en, .slice ad bs.length cap, .string va, .int .i64 st, .int .i64 fl, .int .i64 to] 30)).1
  have hbA := (Below.refl w.heap.size w).alloc (Nat.le_refl _) (.cells #[.int .i64 fc, .int .i64 fa, .string ty, .int .i64 cd, .int .i64 ins, .int .i64 en, .slice ad bs.length cap, .string va, .int .i64 st, .int .i64 fl, .int .i64 to] 30)
  have HKA := hid hkA
  have HBA := hid hbA
  clear hkA hbA
  go_enter Tryd.func3, Tryd.ntmps3
  go_wp2_with fail
  generalize w.alloc (.cells #[.int .i64 fc, .int .i64 fa, .string ty, .int .i64 cd, .int .i64 ins, .int .i64 en, .slice ad bs.length cap, .string va, .int .i64 st, .int .i64 fl, .int .i64 to] 30) = WA at *
  refine (HSz.out _ HBA.out).mono ?_
  rintro e W1 ⟨⟨q, rfl, hq⟩, hb1⟩
  have HB1 := hid (HBA.out.trans (hb1.mono HBA.out.size))
  have HA1 := hid ((hb1.block _ (heap_lt HKA.out)).trans HKA.out)
  clear hb1 HSz HKA HBA
  by_cases hneg : q < 0
  · go_wp2_with fail
    go_ret
    exact ⟨rfl, HB1.out⟩
  have HLn := hid (hq.resolve_left hneg).2
  have HL1 : Hid (bs.length ≤ 1048576) := by have := HLn.out; show _ ≤ _; omega
  have HL2 : Hid (ty.size ≤ 1048576) := by have := HLn.out; show _ ≤ _; omega
  have HL3 : Hid (va.size ≤ 1048576) := by have := HLn.out; show _ ≤ _; omega
  clear hq HLn
  have eA := HA1.out
  have q0 := cell_of_heap eA 0
  have q1 := cell_of_heap eA 1
  have q2 := cell_of_heap eA 2
  have q3 := cell_of_heap eA 3
  have q4 := cell_of_heap eA 4
  have q5 := cell_of_heap eA 5
  have q6 := cell_of_heap eA 6
  have q7 := cell_of_heap eA 7
  have q8 := cell_of_heap eA 8
  have q9 := cell_of_heap eA 9
  have q10 := cell_of_heap eA 10
  simp at q0 q1 q2 q3 q4 q5 q6 q7 q8 q9 q10
  clear eA
  go_wp2_with fail
  refine (HTo.out _ HB1.out HL1.out).mono ?_
  rintro e W2 ⟨⟨g2, rfl, hs2⟩, hb2⟩
  have HS2 := hid hs2
  have HB2 := hid (HB1.out.trans (hb2.mono HB1.out.size))
  have HA2 := hid ((hb2.block _ (heap_lt HA1.out)).trans HA1.out)
  clear hs2 hb2 HB1 HA1 q0 q1 q2 q3 q4 q5 q6 q7 q8 q9 q10
  go_wp2_with fail
  refine (HS.out _ _ HS2.out.intSlice HL1.out HL2.out HL3.out).mono ?_
  rintro e W3 ⟨rfl, hb3⟩
  have HB3 := hid (HB2.out.trans (hb3.mono HB2.out.size))
  have HA3 := hid ((hb3.block _ (heap_lt HA2.out)).trans HA2.out)
  clear hb3 HB2 HA2 HS2
  have eA := HA3.out
  have q0 := cell_of_heap eA 0
  have q1 := cell_of_heap eA 1
  have q2 := cell_of_heap eA 2
  have q3 := cell_of_heap eA 3
  have q4 := cell_of_heap eA 4
  have q5 := cell_of_heap eA 5
  have q6 := cell_of_heap eA 6
  have q7 := cell_of_heap eA 7
  have q8 := cell_of_heap eA 8
  have q9 := cell_of_heap eA 9
  have q10 := cell_of_heap eA 10
  simp at q0 q1 q2 q3 q4 q5 q6 q7 q8 q9 q10
  clear eA
  go_wp2_with fail
  refine (HTo.out _ HB3.out HL1.out).mono ?_
  rintro e W4 ⟨⟨gx, rfl, hs4⟩, hb4⟩
  have HB4 := hid (HB3.out.trans (hb4.mono HB3.out.size))
  have HA4 := hid ((hb4.block _ (heap_lt HA3.out)).trans HA3.out)
  have hkX := (MapKept.heap_alloc W4 (.cells #[.int .i64 fc, .int .i64 fa, .string ty, .int .i64 cd, .int .i64 ins, .int .i64 en, .slice (some ⟨gx, 0, none⟩) bs.length bs.length, .string va, .int .i64 st, .int .i64 fl, .int .i64 to] 37)).1
  have hbX := (Below.refl W4.heap.size W4).alloc (Nat.le_refl _) (.cells #[.int .i64 fc, .int .i64 fa, .string ty, .int .i64 cd, .int .i64 ins, .int .i64 en, .slice (some ⟨gx, 0, none⟩) bs.length bs.length, .string va, .int .i64 st, .int .i64 fl, .int .i64 to] 37)
  have HX5 := hid hkX
  have HB5 := hid (HB4.out.trans (hbX.mono HB4.out.size))
  have HA5 := hid ((hbX.block _ (heap_lt HA4.out)).trans HA4.out)
  have HS5 := hid (hs4.below hbX)
  clear hs4 hb4 HB3 HA3 HB4 HA4 hkX hbX q0 q1 q2 q3 q4 q5 q6 q7 q8 q9 q10
  go_wp2_with fail
  generalize W4.alloc (.cells #[.int .i64 fc, .int .i64 fa, .string ty, .int .i64 cd, .int .i64 ins, .int .i64 en, .slice (some ⟨gx, 0, none⟩) bs.length bs.length, .string va, .int .i64 st, .int .i64 fl, .int .i64 to] 37) = W5 at *
  refine (HI.out _ _ _ (HLa.out.stays HB5.out) HS5.out HL1.out HL2.out HL3.out).mono ?_
  rintro e W6 ⟨rfl, hb6⟩
  have HB6 := hid (HB5.out.trans (hb6.mono HB5.out.size))
  have HA6 := hid ((hb6.block _ (heap_lt HA5.out)).trans HA5.out)
  have HX6 := hid ((hb6.block _ (heap_lt HX5.out)).trans HX5.out)
  have HS6 := hid (HS5.out.below hb6)
  clear hb6 HB5 HA5 HX5 HS5 HS HI
  go_wp2_with fail
  have q_lt := heap_lt HA6.out
  have v_lt := heap_lt HX6.out
  have q0 : ∀ y : Later W6.heap.size W6, y.w.cell? ⟨w.heap.size, 0, none⟩ = some (.int .i64 fc) := fun y => y.cell q_lt (by rw [cell_of_heap HA6.out]; rfl)
  have q1 : ∀ y : Later W6.heap.size W6, y.w.cell? ⟨w.heap.size, 1, none⟩ = some (.int .i64 fa) := fun y => y.cell q_lt (by rw [cell_of_heap HA6.out]; rfl)
  have q2 : ∀ y : Later W6.heap.size W6, y.w.cell? ⟨w.heap.size, 2, none⟩ = some (.string ty) := fun y => y.cell q_lt (by rw [cell_of_heap HA6.out]; rfl)
  have q3 : ∀ y : Later W6.heap.size W6, y.w.cell? ⟨w.heap.size, 3, none⟩ = some (.int .i64 cd) := fun y => y.cell q_lt (by rw [cell_of_heap HA6.out]; rfl)
  have q4 : ∀ y : Later W6.heap.size W6, y.w.cell? ⟨w.heap.size, 4, none⟩ = some (.int .i64 ins) := fun y => y.cell q_lt (by rw [cell_of_heap HA6.out]; rfl)
  have q5 : ∀ y : Later W6.heap.size W6, y.w.cell? ⟨w.heap.size, 5, none⟩ = some (.int .i64 en) := fun y => y.cell q_lt (by rw [cell_of_heap HA6.out]; rfl)
  have q6 : ∀ y : Later W6.heap.size W6, y.w.cell? ⟨w.heap.size, 6, none⟩ = some (.slice ad bs.length cap) := fun y => y.cell q_lt (by rw [cell_of_heap HA6.out]; rfl)
  have q7 : ∀ y : Later W6.heap.size W6, y.w.cell? ⟨w.heap.size, 7, none⟩ = some (.string va) := fun y => y.cell q_lt (by rw [cell_of_heap HA6.out]; rfl)
  have q8 : ∀ y : Later W6.heap.size W6, y.w.cell? ⟨w.heap.size, 8, none⟩ = some (.int .i64 st) := fun y => y.cell q_lt (by rw [cell_of_heap HA6.out]; rfl)
  have q9 : ∀ y : Later W6.heap.size W6, y.w.cell? ⟨w.heap.size, 9, none⟩ = some (.int .i64 fl) := fun y => y.cell q_lt (by rw [cell_of_heap HA6.out]; rfl)
  have q10 : ∀ y : Later W6.heap.size W6, y.w.cell? ⟨w.heap.size, 10, none⟩ = some (.int .i64 to) := fun y => y.cell q_lt (by rw [cell_of_heap HA6.out]; rfl)
  have v0 : ∀ y : Later W6.heap.size W6, y.w.cell? ⟨W4.heap.size, 0, none⟩ = some (.int .i64 fc) := fun y => y.cell v_lt (by rw [cell_of_heap HX6.out]; rfl)
  have v1 : ∀ y : Later W6.heap.size W6, y.w.cell? ⟨W4.heap.size, 1, none⟩ = some (.int .i64 fa) := fun y => y.cell v_lt (by rw [cell_of_heap HX6.out]; rfl)
  have v2 : ∀ y : Later W6.heap.size W6, y.w.cell? ⟨W4.heap.size, 2, none⟩ = some (.string ty) := fun y => y.cell v_lt (by rw [cell_of_heap HX6.out]; rfl)
  have v3 : ∀ y : Later W6.heap.size W6, y.w.cell? ⟨W4.heap.size, 3, none⟩ = some (.int .i64 cd) := fun y => y.cell v_lt (by rw [cell_of_heap HX6.out]; rfl)
  have v4 : ∀ y : Later W6.heap.size W6, y.w.cell? ⟨W4.heap.size, 4, none⟩ = some (.int .i64 ins) := fun y => y.cell v_lt (by rw [cell_of_heap HX6.out]; rfl)
  have v5 : ∀ y : Later W6.heap.size W6, y.w.cell? ⟨W4.heap.size, 5, none⟩ = some (.int .i64 en) := fun y => y.cell v_lt (by rw [cell_of_heap HX6.out]; rfl)
  have v6 : ∀ y : Later W6.heap.size W6, y.w.cell? ⟨W4.heap.size, 6, none⟩ = some (.slice (some ⟨gx, 0, none⟩) bs.length bs.length) := fun y => y.cell v_lt (by rw [cell_of_heap HX6.out]; rfl)
  have v7 : ∀ y : Later W6.heap.size W6, y.w.cell? ⟨W4.heap.size, 7, none⟩ = some (.string va) := fun y => y.cell v_lt (by rw [cell_of_heap HX6.out]; rfl)
  have v8 : ∀ y : Later W6.heap.size W6, y.w.cell? ⟨W4.heap.size, 8, none⟩ = some (.int .i64 st) := fun y => y.cell v_lt (by rw [cell_of_heap HX6.out]; rfl)
  have v9 : ∀ y : Later W6.heap.size W6, y.w.cell? ⟨W4.heap.size, 9, none⟩ = some (.int .i64 fl) := fun y => y.cell v_lt (by rw [cell_of_heap HX6.out]; rfl)
  have v10 : ∀ y : Later W6.heap.size W6, y.w.cell? ⟨W4.heap.size, 10, none⟩ = some (.int .i64 to) := fun y => y.cell v_lt (by rw [cell_of_heap HX6.out]; rfl)
  refine stage_begin (S := fun w' => ∃ x : Later W6.heap.size W6, w' = x.w) (by kernel_rfl) ?_
  refine stage_walk (by kernel_rfl) 2 0 _ _ (by kernel_rfl) ⟨⟨W6.drew, (Below.refl _ _).drew⟩, rfl⟩ ?_
  simp only [List.drop_zero, List.take_succ_cons, List.take_zero]
  repeat (go_big_quiet_step (fail))
  refine wpQuiet_nil ?_
  rintro w5 ⟨x1, rfl⟩
  refine stage_enter (k := 2) (f := 6) (args := #[.agg #[.int .i64 fc, .int .i64 fa, .string ty, .int .i64 cd, .int .i64 ins, .int .i64 en, .slice ad bs.length cap, .string va, .int .i64 st, .int .i64 fl, .int .i64 to]]) rfl (by kernel_rfl) rfl (by simp [go_sem]) ?_
  refine (HTo.out _ (HB6.out.trans (x1.h.mono HB6.out.size)) HL1.out).mono ?_
  rintro e W9 ⟨⟨g9, rfl, hs9⟩, hb9⟩
  have HS9 := hid hs9
  have hL9 := x1.h.trans (hb9.mono x1.h.size)
  have HSx := hid (HS6.out.below hL9)
  refine ⟨_, rfl, ⟨⟨W9, hL9⟩, rfl⟩, ?_⟩
  clear hs9 q0 q1 q2 q3 q4 q5 q6 q7 q8 q9 q10 v0 v1 v2 v3 v4 v5 v6 v7 v8 v9 v10
  refine stage_frame (by simp [go_sem]; exact rfl) ?_
  refine stage_class (S' := fun w' => ∃ y : Later W9.heap.size W9, w' = y.w) (fun w' ⟨y, hy⟩ => ⟨⟨w', hL9.trans ((hy ▸ y.h).mono hL9.size)⟩, rfl⟩) ?_
  refine stage_walk (by kernel_rfl) 2 3 _ _ (by kernel_rfl) ⟨⟨W9, Below.refl _ _⟩, rfl⟩ ?_
  simp only [List.drop_zero, List.drop_succ_cons, List.take_succ_cons, List.take_zero]
  repeat (go_big_quiet_step (first | (rename_i y; go_at_call 8; refine (HE.out _ _ _ HL1.out (HSx.out.below y.h).intSlice (HS9.out.below y.h).intSlice).mono ?_; rintro e w5 ⟨rfl, hb5⟩; exact ⟨rfl, ⟨w5, y.h.trans (hb5.mono y.h.size)⟩, rfl⟩)))
  refine wpQuiet_nil ?_
  rintro w6 ⟨y, rfl⟩
  refine stage_end (by kernel_rfl) ?_
  have HBe := hid (HB6.out.trans ((hL9.trans (y.h.mono hL9.size)).mono HB6.out.size))
  clear HS9 HSx hL9 hb9
  generalize y.w = W10 at *
  go_wp2_with fail
  go_ret
  exact ⟨rfl, HBe.out⟩

theorem Tryd.cellsReport : Tryd.prog.cellsOf 30 = 11 := by kernel_rfl
theorem Tryd.cellsResult : Tryd.prog.cellsOf 26 = 4 := by kernel_rfl
theorem Tryd.cellsFault : Tryd.prog.cellsOf 23 = 2 := by kernel_rfl
theorem Tryd.cellsStats : Tryd.prog.cellsOf 28 = 2 := by kernel_rfl
theorem Tryd.cellsString : Tryd.prog.cellsOf 9 = 1 := by kernel_rfl

theorem wf_long {n : Int} (h : (Lit.int .i64 n).wf = true) : Long n := by
  simp [Lit.wf] at h
  have h1 : IntKind.i64.min = -9223372036854775808 := rfl
  have h2 : IntKind.i64.max = 9223372036854775807 := rfl
  unfold Long
  omega

section
open Go.Deep Go.ChangeShapes Go.WideShapes
variable {H : Type} {enc : TypeId × Value → H} {W : World} {sp : Nat → Bool} {held : Bool}

set_option maxRecDepth 100000 in
theorem open_two {t : TypeId} {fuel : Nat} {cs : List Value} {x : DataW H × List MemPlace} (ht : t = 23 ∨ t = 28) (h : DataW.trod enc Tryd.prog W 0 sp held fuel t cs = some x) :
    ∃ a b, cs = [.int .i64 a, .int .i64 b] ∧ Long a ∧ Long b := by
  rcases ht with rfl | rfl
  · obtain ⟨xs, k, hk, hxy, hcl, hxl, hf⟩ := DataW.trod_struct Tryd.underlying23 h
    rw [Tryd.cellsFault] at hcl
    match xs, hxl, cs, hcl with
    | [y0, y1], _, [v0, v1], _ =>
      have g0 := hf 0 _ rfl
      have g1 := hf 1 _ rfl
      simp [Tryd.cellsInt] at g0 g1
      obtain ⟨i0, e0, _, w0⟩ := DataW.trod_int Tryd.underlying3 g0
      obtain ⟨i1, e1, _, w1⟩ := DataW.trod_int Tryd.underlying3 g1
      simp at e0 e1
      subst e0 e1
      exact ⟨i0, i1, rfl, wf_long w0, wf_long w1⟩
  · obtain ⟨xs, k, hk, hxy, hcl, hxl, hf⟩ := DataW.trod_struct Tryd.underlying28 h
    rw [Tryd.cellsStats] at hcl
    match xs, hxl, cs, hcl with
    | [y0, y1], _, [v0, v1], _ =>
      have g0 := hf 0 _ rfl
      have g1 := hf 1 _ rfl
      simp [Tryd.cellsInt] at g0 g1
      obtain ⟨i0, e0, _, w0⟩ := DataW.trod_int Tryd.underlying3 g0
      obtain ⟨i1, e1, _, w1⟩ := DataW.trod_int Tryd.underlying3 g1
      simp at e0 e1
      subst e0 e1
      exact ⟨i0, i1, rfl, wf_long w0, wf_long w1⟩

set_option maxRecDepth 100000 in
theorem open_result {fuel : Nat} {cs : List Value} {x : DataW H × List MemPlace} (h : DataW.trod enc Tryd.prog W 0 sp held fuel 26 cs = some x) :
    ∃ en v va st bs, cs = [.int .i64 en, v, .string va, .int .i64 st] ∧ IntSlice W v bs ∧ bs.length ≤ maxLen ∧ (∀ n ∈ bs, Long n) ∧ Long en ∧ va.size ≤ maxLen := by
  obtain ⟨xs, k, hk, hxy, hcl, hxl, hf⟩ := DataW.trod_struct Tryd.underlying26 h
  rw [Tryd.cellsResult] at hcl
  match xs, hxl, cs, hcl with
  | [y0, y1, y2, y3], _, [v0, v1, v2, v3], _ =>
    have g0 := hf 0 _ rfl
    have g1 := hf 1 _ rfl
    have g2 := hf 2 _ rfl
    have g3 := hf 3 _ rfl
    simp [Tryd.cellsInt, Tryd.cellsInts, Tryd.cellsString] at g0 g1 g2 g3
    obtain ⟨i0, e0, _, w0⟩ := DataW.trod_int Tryd.underlying3 g0
    obtain ⟨bs, hb, hbl, hbw⟩ := open_intL g1
    obtain ⟨s2, e2, _, l2⟩ := DataW.trod_string Tryd.underlying9 g2
    obtain ⟨i3, e3, _, w3⟩ := DataW.trod_int Tryd.underlying3 g3
    simp at e0 e2 e3
    subst e0 e2 e3
    exact ⟨i0, v1, s2, i3, bs, rfl, hb, hbl, fun n hn => wf_long (hbw n hn), wf_long w0, l2⟩

set_option maxRecDepth 100000 in
theorem open_report {fuel : Nat} {cs : List Value} {x : DataW H × List MemPlace} (h : DataW.trod enc Tryd.prog W 0 sp held fuel 30 cs = some x) :
    ∃ v bs r, cs = [.int .i64 r.fc, .int .i64 r.fa, .string r.ty, .int .i64 r.cd, .int .i64 r.ins, .int .i64 r.en, v, .string r.va, .int .i64 r.st, .int .i64 r.fl, .int .i64 r.to] ∧ IntSlice W v bs ∧ bs.length ≤ maxLen ∧ (∀ n ∈ bs, Long n) ∧ RpL r ∧ r.ty.size ≤ maxLen ∧ r.va.size ≤ maxLen := by
  obtain ⟨xs, k, hk, hxy, hcl, hxl, hf⟩ := DataW.trod_struct Tryd.underlying30 h
  rw [Tryd.cellsReport] at hcl
  match xs, hxl, cs, hcl with
  | [y0, y1, y2, y3, y4, y5], _, [v0, v1, v2, v3, v4, v5, v6, v7, v8, v9, v10], _ =>
    have g0 := hf 0 _ rfl
    have g1 := hf 1 _ rfl
    have g2 := hf 2 _ rfl
    have g3 := hf 3 _ rfl
    have g4 := hf 4 _ rfl
    have g5 := hf 5 _ rfl
    simp [Tryd.cellsInt, Tryd.cellsString, Tryd.cellsFault, Tryd.cellsResult, Tryd.cellsStats] at g0 g1 g2 g3 g4 g5
    obtain ⟨a0, b0, e0, w0, w0'⟩ := open_two (Or.inl rfl) g0
    obtain ⟨s1, e1, _, l1⟩ := DataW.trod_string Tryd.underlying9 g1
    obtain ⟨i2, e2, _, w2⟩ := DataW.trod_int Tryd.underlying3 g2
    obtain ⟨i3, e3, _, w3⟩ := DataW.trod_int Tryd.underlying3 g3
    obtain ⟨en, v, va, st, bs, e4, hb, hbl, hbw, wen, lva⟩ := open_result g4
    obtain ⟨a5, b5, e5, w5, w5'⟩ := open_two (Or.inr rfl) g5
    simp at e0 e1 e2 e3 e4 e5
    obtain ⟨rfl, rfl⟩ := e0
    obtain ⟨rfl, rfl, rfl, rfl⟩ := e4
    obtain ⟨rfl, rfl⟩ := e5
    subst e1 e2 e3
    exact ⟨_, bs, ⟨a0, b0, s1, i2, i3, en, va, st, a5, b5⟩, rfl, hb, hbl, hbw, ⟨w0, w0', wf_long w2, wen⟩, l1, lva⟩
end
end Go.Proofs.YtnoejhfpplddfaaDoor
