/- Marks that are put into a list of instructions are held by it. -/
import Derived.Test.YtfmkgppkgmjpfaaDoorInsHelp
namespace Go.Proofs.YtfmkgppkgmjpfaaDoor
open Go.RowKit

/-- The marks, told by the place of the cell. -/
def insMarks (i : Nat) : Value := .int .i64 (1 + (i : Int))

theorem wrap_mark {x : Int} {k : Nat} (hx : x = 1 + 4 * (k : Int)) (hk : k ≤ 1048576) : wrap64 (x + 1) = x + 1 ∧ wrap64 (x + 1 + 1) = x + 1 + 1 ∧ wrap64 (x + 1 + 1 + 1) = x + 1 + 1 + 1 ∧ wrap64 (x + 1 + 1 + 1 + 1) = x + 1 + 1 + 1 + 1 := by
  unfold wrap64
  omega

set_option maxHeartbeats 1000000 in
set_option maxRecDepth 100000 in
theorem markInsS_rows (g n cap : Nat) (F : Nat → Value) (w : World) (hm : n ≤ 1048576) (hr : CellRow 40 w g (n * 4) F) :
    Calls Tryd.prog 13 #[.slice (some ⟨g, 0, none⟩) n cap, .int .i64 1] w fun e w' => e = .returned (.int .i64 (1 + 4 * (n : Int))) ∧ CellRow 40 w' g (n * 4) insMarks ∧ w.grownBy w' (some g) := by
  obtain ⟨N, f, hf, hN, _⟩ := hr
  have HM : Hid (n ≤ 1048576) := hm
  clear hm
  go_enter Tryd.func13, Tryd.ntmps13
  go_wp2_with fail
  go_loopw [1, 5] (fun m i wr => ∃ (k : Nat) (x : Int) (f : Nat → Value), k ≤ n ∧ i = .int .i64 k ∧ m = .int .i64 x ∧ Hid (x = 1 + 4 * (k : Int)) ∧ Rw wr g 40 N f (n * 4) ∧ Hid (∀ j, j < k * 4 → f j = insMarks j) ∧ w.grownBy wr (some g)) (fun _ i _ => n - (intOf i).toNat)
  case atStart => exact ⟨0, 1, f, Nat.zero_le _, rfl, rfl, rfl, hf, fun j hj => by omega, kept_refl _ _⟩
  case round =>
    obtain ⟨k, x, f, hk, rfl, rfl, Hx, hrow, HF, hgr⟩ := hrel
    clear hf
    by_cases hkl : (k : Int) < (n : Int)
    · have q0 := hrow.cell (i := k * 4) (by omega)
      have q1 := hrow.cell (i := k * 4 + 1) (by omega)
      have q2 := hrow.cell (i := k * 4 + 2) (by omega)
      have q3 := hrow.cell (i := k * 4 + 3) (by omega)
      have z0 := hrow.frozen (k * 4) (by omega)
      have z1 := hrow.frozen (k * 4 + 1) (by omega)
      have z2 := hrow.frozen (k * 4 + 2) (by omega)
      have z3 := hrow.frozen (k * 4 + 3) (by omega)
      have HW : Hid _ := wrap_mark Hx.out (by have := HM.out; omega)
      go_wp2_with fail
      obtain ⟨e1, e2, e3, e4⟩ := HW.out
      simp only [e1, e2, e3, e4]
      obtain ⟨f', hr', g0, g1, g2, g3, eo⟩ := ins_step (k := k) (.int .i64 x) (.int .i64 (x + 1)) (.int .i64 (x + 1 + 1)) (.int .i64 (x + 1 + 1 + 1)) hrow
      have hs : n - (intOf (.int .i64 ((k + 1 : Nat) : Int))).toNat < n - (intOf (.int .i64 (k : Int))).toNat := by simp only [intOf, Int.toNat_natCast]; omega
      try rw [wrap_one (by omega) HM.out]
      have hx := Hx.out
      refine ⟨⟨k + 1, x + 1 + 1 + 1 + 1, f', by omega, rfl, rfl, by show _ = _; omega, hr', ins_more HF.out eo ?_ ?_ ?_ ?_, kept_set (kept_set (kept_set (kept_set hgr _ _) _ _) _ _) _ _⟩, hs⟩
      · rw [g0]; unfold insMarks; congr 1; omega
      · rw [g1]; unfold insMarks; congr 1; omega
      · rw [g2]; unfold insMarks; congr 1; omega
      · rw [g3]; unfold insMarks; congr 1; omega
    · have hkn : k = n := by omega
      subst hkn
      have HX : Hid (x = 1 + 4 * (k : Int)) := Hx
      clear Hx
      go_wp2_with fail
      go_ret
      exact ⟨by rw [← HX.out]; rfl, ⟨N, f, hrow, hN, HF.out⟩, hgr⟩

set_option maxRecDepth 100000 in
theorem markInsS_none (ad : Option Addr) (cap : Nat) (w : World) :
    Calls Tryd.prog 13 #[.slice ad 0 cap, .int .i64 1] w fun e w' => e = .returned (.int .i64 1) ∧ w = w' := by
  go_enter Tryd.func13, Tryd.ntmps13
  go_wp2
  refine wp_loop_rounds 1 ?_
  rw [rounds_succ]
  go_wp2
  go_ret
  exact ⟨rfl, rfl⟩

theorem markInsS_any {B n : Nat} {v : Value} {F : Nat → Value} (w : World) (hm : n ≤ 1048576) (h : SliceR 40 4 B w v n F) :
    Calls Tryd.prog 13 #[v, .int .i64 1] w fun e w' => e = .returned (.int .i64 (1 + 4 * (n : Int))) ∧ SliceR 40 4 B w' v n insMarks ∧ Turned w w' v n := by
  obtain ⟨ad, cap, rfl, h⟩ := h
  by_cases h0 : n = 0
  · subst h0
    refine (markInsS_none ad cap w).mono ?_
    rintro e w' ⟨rfl, rfl⟩
    exact ⟨rfl, ⟨ad, cap, rfl, Or.inl rfl⟩, none, kept_refl _ _, Or.inl rfl⟩
  · obtain ⟨g, rfl, hB, hr⟩ := h.resolve_left h0
    refine (markInsS_rows g n cap F w hm hr).mono ?_
    rintro e w' ⟨rfl, hr', hg⟩
    exact ⟨rfl, ⟨_, cap, rfl, Or.inr ⟨g, rfl, hB, hr'⟩⟩, some g, hg, Or.inr ⟨h0, rfl⟩⟩

end Go.Proofs.YtfmkgppkgmjpfaaDoor