/- Marks that were put into a list of nodes are held by it; two lists of the same nodes compare as alike. -/
import Derived.Test.YtlhdicichdihfaaGreatDoorRowsEndP
import Derived.Test.YtlhdicichdihfaaGreatDoorCalm
import Derived.Deep.CutRange
namespace Go.Proofs.YtlhdicichdihfaaGreatDoor
open Go.RowKit

set_option maxHeartbeats 4000000 in
set_option maxRecDepth 100000 in
theorem heldNodeS_rows (g n cap : Nat) (w : World) (hm : n ≤ 1048576) (hr : CellRow 42 w g (n * 6) ndMarks) :
    Calls Tryz.prog 11 #[.slice (some ⟨g, 0, none⟩) n cap, .int .i64 1] w fun e w' => e = .returned (.int .i64 (1 + 6 * (n : Int))) ∧ Below w.heap.size w w' := by
  have HM : Hid (n ≤ 1048576) := hm
  have HR := hid hr
  clear hm hr
  go_enter Tryz.func11, Tryz.ntmps11
  go_wp2_with fail
  go_loopw [1, 5] (fun m i wr => ∃ (k : Nat) (x : Int), k ≤ n ∧ i = .int .i64 k ∧ m = .int .i64 x ∧ Hid (x = 1 + 6 * (k : Int)) ∧ Below w.heap.size w wr) (fun _ i _ => n - (intOf i).toNat)
  case atStart => exact ⟨0, 1, Nat.zero_le _, rfl, rfl, by show _ = _; simp, Below.refl _ _⟩
  case round =>
    obtain ⟨k, x, hk, rfl, rfl, Hx, hnx⟩ := hrel
    by_cases hkl : (k : Int) < (n : Int)
    · have HW := hid (wrap_six Hx.out (by omega) HM.out)
      have HC : Hid (∀ (c : Nat) (X : World), 2 ≤ c → c ≤ 4 → Calls Tryz.prog 25 #[.int .i64 (x + (c : Int))] X fun e w' => e = .returned (.string (markOf (1 + (k * 6 + c)))) ∧ Below X.heap.size X w') := fun c X h1 h2 => by
        have := mark_callsZ (x + (c : Int)) (by show _ ∧ _; have := Hx.out; have := HM.out; omega) X
        rwa [show (x + (c : Int)).toNat = 1 + (k * 6 + c) by have := Hx.out; omega] at this
      have HC2 := hid (fun X => HC.out 2 X (by decide) (by decide))
      have HC3 := hid (fun X => HC.out 3 X (by decide) (by decide))
      have HC4 := hid (fun X => HC.out 4 X (by decide) (by decide))
      rw [show x + ((2 : Nat) : Int) = x + 1 + 1 by omega] at HC2
      rw [show x + ((3 : Nat) : Int) = x + 1 + 1 + 1 by omega] at HC3
      rw [show x + ((4 : Nat) : Int) = x + 1 + 1 + 1 + 1 by omega] at HC4
      have hcl : ∀ (X : World), Below w.heap.size w X → ∀ c, c < 6 → X.cell? ⟨g, k * 6 + c, none⟩ = some (ndMarks (k * 6 + c)) := fun X hX c hc => (hX.cell (p := ⟨g, k * 6 + c, none⟩) HR.out.lt).trans (HR.out.cell (by omega))
      have HB : ndMarks (k * 6 + 0) = .int .i64 x ∧ ndMarks (k * 6 + 1) = .int .i64 (x + 1) ∧ ndMarks (k * 6 + 2) = .string (markOf (1 + (k * 6 + 2))) ∧ ndMarks (k * 6 + 3) = .string (markOf (1 + (k * 6 + 3))) ∧ ndMarks (k * 6 + 4) = .string (markOf (1 + (k * 6 + 4))) ∧ ndMarks (k * 6 + 5) = .int .i64 (x + 1 + 1 + 1 + 1 + 1) := by
        have hx := Hx.out
        unfold ndMarks
        refine ⟨?_, ?_, ?_, ?_, ?_, ?_⟩
        · rw [if_neg (by omega)]; congr 1; omega
        · rw [if_neg (by omega)]; congr 1; omega
        · rw [if_pos (by omega)]
        · rw [if_pos (by omega)]
        · rw [if_pos (by omega)]
        · rw [if_neg (by omega)]; congr 1; omega
      generalize markOf (1 + (k * 6 + 2)) = m2 at *
      generalize markOf (1 + (k * 6 + 3)) = m3 at *
      generalize markOf (1 + (k * 6 + 4)) = m4 at *
      have HCl : Hid (∀ (X : World), Below w.heap.size w X → X.cell? ⟨g, k * 6, none⟩ = some (.int .i64 x) ∧ X.cell? ⟨g, k * 6 + 1, none⟩ = some (.int .i64 (wrap64 (x + 1))) ∧ X.cell? ⟨g, k * 6 + 2, none⟩ = some (.string m2) ∧ X.cell? ⟨g, k * 6 + 3, none⟩ = some (.string m3) ∧ X.cell? ⟨g, k * 6 + 4, none⟩ = some (.string m4) ∧ X.cell? ⟨g, k * 6 + 5, none⟩ = some (.int .i64 (x + 1 + 1 + 1 + 1 + 1))) := fun X hX => by
        obtain ⟨b0, b1, b2, b3, b4, b5⟩ := HB
        refine ⟨by have := hcl X hX 0 (by omega); rwa [b0] at this, ?_, by have := hcl X hX 2 (by omega); rwa [b2] at this, by have := hcl X hX 3 (by omega); rwa [b3] at this, by have := hcl X hX 4 (by omega); rwa [b4] at this, by have := hcl X hX 5 (by omega); rwa [b5] at this⟩
        have := hcl X hX 1 (by omega)
        rw [b1] at this
        rw [HW.out.1]
        exact this
      obtain ⟨q0, q1, -⟩ := HCl.out wr hnx
      have HNx := hid hnx
      have hi0 : (0 : Int) ≤ (k : Int) := by omega
      clear HC hcl HB hnx
      go_upto_region 10 with fail
      obtain ⟨e1, e2, e3, e4, e5, e6⟩ := HW.out
      simp only [e1, e2]
      clear e1 e2 e3 e4 e5 e6 q0 q1
      have q2 : ∀ y : Later wr.heap.size wr, y.w.cell? ⟨g, k * 6 + 2, none⟩ = some (.string m2) := fun y => (HCl.out y.w (HNx.out.trans (y.h.mono HNx.out.size))).2.2.1
      refine wp_region_calm wr.heap.size (by kernel_rfl) (by kernel_rfl) ?_
      repeat (go_big_quiet_step (first | (rename_i y; go_at_call 25; refine (HC2.out _).mono ?_; rintro e w5 ⟨rfl, hb5⟩; exact ⟨rfl, ⟨w5, y.h.trans (hb5.mono y.h.size)⟩, rfl⟩)))
      refine wpQuiet_nil ?_
      rintro w6 ⟨y, rfl⟩
      have HN1 := hid (HNx.out.trans (y.h.mono HNx.out.size))
      generalize y.w = X1 at *
      clear q2 HC2 HNx
      go_upto_region 13 with fail
      obtain ⟨e1, e2, e3, e4, e5, e6⟩ := HW.out
      simp only [e3]
      clear e1 e2 e3 e4 e5 e6
      have q3 : ∀ y : Later X1.heap.size X1, y.w.cell? ⟨g, k * 6 + 3, none⟩ = some (.string m3) := fun y => (HCl.out y.w (HN1.out.trans (y.h.mono HN1.out.size))).2.2.2.1
      refine wp_region_calm X1.heap.size (by kernel_rfl) (by kernel_rfl) ?_
      repeat (go_big_quiet_step (first | (rename_i y; go_at_call 25; refine (HC3.out _).mono ?_; rintro e w5 ⟨rfl, hb5⟩; exact ⟨rfl, ⟨w5, y.h.trans (hb5.mono y.h.size)⟩, rfl⟩)))
      refine wpQuiet_nil ?_
      rintro w6 ⟨y2, rfl⟩
      have HN2 := hid (HN1.out.trans (y2.h.mono HN1.out.size))
      generalize y2.w = X2 at *
      clear q3 HC3 HN1
      go_upto_region 16 with fail
      obtain ⟨e1, e2, e3, e4, e5, e6⟩ := HW.out
      simp only [e4]
      clear e1 e2 e3 e4 e5 e6
      have q4 : ∀ y : Later X2.heap.size X2, y.w.cell? ⟨g, k * 6 + 4, none⟩ = some (.string m4) := fun y => (HCl.out y.w (HN2.out.trans (y.h.mono HN2.out.size))).2.2.2.2.1
      refine wp_region_calm X2.heap.size (by kernel_rfl) (by kernel_rfl) ?_
      repeat (go_big_quiet_step (first | (rename_i y; go_at_call 25; refine (HC4.out _).mono ?_; rintro e w5 ⟨rfl, hb5⟩; exact ⟨rfl, ⟨w5, y.h.trans (hb5.mono y.h.size)⟩, rfl⟩)))
      refine wpQuiet_nil ?_
      rintro w6 ⟨y3, rfl⟩
      have HN3 := hid (HN2.out.trans (y3.h.mono HN2.out.size))
      generalize y3.w = X3 at *
      clear q4 HC4 HN2
      obtain ⟨-, -, -, -, -, q5⟩ := HCl.out X3 HN3.out
      have HW5 : Hid (wrap64 (x + 1 + 1 + 1 + 1 + 1) = x + 1 + 1 + 1 + 1 + 1) := HW.out.2.2.2.2.1
      have q5' : X3.cell? ⟨g, k * 6 + 5, none⟩ = some (.int .i64 (wrap64 (x + 1 + 1 + 1 + 1 + 1))) := by rw [HW5.out]; exact q5
      clear q5
      go_wp2_with fail
      obtain ⟨e1, e2, e3, e4, e5, e6⟩ := HW.out
      simp only [e5, e6]
      rw [wrap_inc (n := n) (by omega) HM.out]
      have hs : n - (intOf (.int .i64 ((k + 1 : Nat) : Int))).toNat < n - (intOf (.int .i64 (k : Int))).toNat := by simp only [intOf, Int.toNat_natCast]; omega
      have hx := Hx.out
      exact ⟨⟨k + 1, x + 1 + 1 + 1 + 1 + 1 + 1, by omega, rfl, rfl, by show _ = _; omega, HN3.out⟩, hs⟩
    · have hkn : k = n := by omega
      subst hkn
      have HX : Hid (x = 1 + 6 * (k : Int)) := Hx
      clear Hx
      go_wp2_with fail
      go_ret
      exact ⟨by rw [← HX.out]; rfl, hnx⟩

set_option maxRecDepth 100000 in
theorem heldNodeS_none (ad : Option Addr) (cap : Nat) (w : World) :
    Calls Tryz.prog 11 #[.slice ad 0 cap, .int .i64 1] w fun e w' => e = .returned (.int .i64 1) ∧ w = w' := by
  go_enter Tryz.func11, Tryz.ntmps11
  go_wp2
  refine wp_loop_rounds 1 ?_
  rw [rounds_succ]
  go_wp2
  go_ret
  exact ⟨rfl, rfl⟩

theorem heldNodeS_any {B n : Nat} {v : Value} (w : World) (hm : n ≤ 1048576) (h : SliceR 42 6 B w v n ndMarks) :
    Calls Tryz.prog 11 #[v, .int .i64 1] w fun e w' => e = .returned (.int .i64 (1 + 6 * (n : Int))) ∧ Below w.heap.size w w' := by
  obtain ⟨ad, cap, rfl, h⟩ := h
  by_cases h0 : n = 0
  · subst h0
    refine (heldNodeS_none ad cap w).mono ?_
    rintro e w' ⟨rfl, rfl⟩
    exact ⟨by simp, Below.refl _ _⟩
  · obtain ⟨g, rfl, hB, hr⟩ := h.resolve_left h0
    exact heldNodeS_rows g n cap w hm hr

set_option maxRecDepth 100000 in
theorem eqNodeS_none (ad ad' : Option Addr) (cap cap' : Nat) (w : World) :
    Calls Tryz.prog 9 #[.slice ad 0 cap, .slice ad' 0 cap'] w fun e w' => e = .returned (.bool true) ∧ Below w.heap.size w w' := by
  go_enter Tryz.func9, Tryz.ntmps9
  go_wp2
  refine wp_loop_rounds 1 ?_
  rw [rounds_succ]
  go_wp2
  go_ret
  exact ⟨rfl, Below.refl _ _⟩

theorem eqNodeS_any {B B' : Nat} {v v' : Value} {ns : List Nd} (w : World) (hm : ns.length ≤ 1048576) (h : SliceR 42 6 B w v ns.length (ndF ns)) (h' : SliceR 42 6 B' w v' ns.length (ndF ns)) :
    Calls Tryz.prog 9 #[v, v'] w fun e w' => e = .returned (.bool true) ∧ Below w.heap.size w w' := by
  obtain ⟨ad, cap, rfl, h⟩ := h
  obtain ⟨ad', cap', rfl, h'⟩ := h'
  by_cases h0 : ns.length = 0
  · rw [h0]
    exact eqNodeS_none ad ad' cap cap' w
  · obtain ⟨g, rfl, _, hr⟩ := h.resolve_left h0
    obtain ⟨g', rfl, _, hr'⟩ := h'.resolve_left h0
    exact eqNodeS_calls g 0 g' 0 ns.length cap cap' ns w hr.lt hr'.lt hr.nodes hr'.nodes (Nat.le_refl _) hm
end Go.Proofs.YtlhdicichdihfaaGreatDoor
