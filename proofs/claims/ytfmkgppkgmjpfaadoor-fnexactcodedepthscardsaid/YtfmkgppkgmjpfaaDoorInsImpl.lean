/- The program's test of an instruction answers by the table. -/
import Derived.Test.YtfmkgppkgmjpfaaDoorInsWalks
namespace Go.Proofs.YtfmkgppkgmjpfaaDoor
open Go.RowKit

/-- How many numbers an instruction has; 0 of what is none. -/
def numsZ (op : Int) : Int :=
  if op = 1 ∨ op = 2 ∨ op = 5 ∨ op = 6 ∨ op = 7 ∨ op = 10 ∨ op = 11 ∨ op = 14 ∨ op = 19 ∨ op = 22 then 1
  else if op = 24 ∨ op = 25 then 2
  else if op = 21 then 3
  else 0

theorem numsZ_many (op : Int) : numsZ op = if manyZ op < 0 then 0 else manyZ op := by
  unfold numsZ manyZ
  repeat' split
  all_goals omega

set_option maxHeartbeats 1000000 in
set_option maxRecDepth 100000 in
theorem insNumbers_calls (op : Int) (w : World) :
    Calls Tryd.prog 49 #[.int .i64 op] w fun e w' => e = .returned (.int .i64 (numsZ op)) ∧ w = w' := by
  go_enter Tryd.func49, Tryd.ntmps49
  go_wp2
  all_goals
    go_ret
    refine ⟨?_, rfl⟩
    simp_all [numsZ]

def insLeast (op place : Int) : Int :=
  if numsZ op ≤ place then 0 else if op = 1 then -2147483648 else if op = 14 then 11 else 0

def insMost (op place : Int) : Int :=
  if numsZ op ≤ place then 0 else if op = 1 then 2147483647 else if op = 14 then 15 else if op = 2 ∨ (op = 21 ∧ place = 1) then 1 else 65535

set_option maxHeartbeats 1000000 in
set_option maxRecDepth 100000 in
theorem insRange_calls (op place : Int) (w : World) :
    Calls Tryd.prog 41 #[.int .i64 op, .int .i64 place] w fun e w' => e = .returned (.tuple #[.int .i64 (insLeast op place), .int .i64 (insMost op place)]) ∧ w = w' := by
  go_enter Tryd.func41, Tryd.ntmps41
  go_wp2_with fail
  refine (insNumbers_calls _ _).mono ?_
  rintro e w1 ⟨rfl, rfl⟩
  go_wp2_with fail
  all_goals
    go_ret2
    refine ⟨?_, rfl⟩
    simp_all [insLeast, insMost]

theorem insOkZ_out {op : Int} (a b c : Int) (h : op < 0 ∨ 25 < op) : insOkZ op a b c = false := by
  have : manyZ op = -1 := by
    unfold manyZ
    rw [if_neg (by omega), if_neg (by omega), if_neg (by omega), if_neg (by omega)]
  unfold insOkZ
  rw [this]
  simp

theorem insOkZ_in {op : Int} (a b c : Int) (h0 : 0 ≤ op) (h1 : op ≤ 25) :
    insOkZ op a b c = decide ((insLeast op 0 ≤ a ∧ a ≤ insMost op 0) ∧ (insLeast op 1 ≤ b ∧ b ≤ insMost op 1) ∧ (insLeast op 2 ≤ c ∧ c ≤ insMost op 2)) := by
  rcases ops_cases op with h | h | h | h | h | h | h | h | h | h | h | h | h | h | h | h | h | h | h | h | h | h | h | h | h | h | h
  case inl => omega
  all_goals
    subst h
    simp only [insOkZ, manyZ, insLeast, insMost, numsZ]
    apply Bool.eq_iff_iff.mpr
    simp
    try omega

set_option maxHeartbeats 1000000 in
set_option maxRecDepth 100000 in
theorem implInsOk_calls (op a b c : Int) (w : World) :
    Calls Tryd.prog 33 #[.agg #[.int .i64 op, .int .i64 a, .int .i64 b, .int .i64 c]] w fun e w' => e = .returned (.bool (insOkZ op a b c)) ∧ Below w.heap.size w w' := by
  have hop : op < 0 ∨ (0 ≤ op ∧ 25 < op) ∨ (0 ≤ op ∧ op ≤ 25) := by omega
  rcases hop with h | ⟨h, h'⟩ | ⟨h, h'⟩
  · rw [insOkZ_out a b c (Or.inl h)]
    go_enter Tryd.func33, Tryd.ntmps33
    go_wp2_with fail
    go_ret
    exact ⟨rfl, (Below.refl _ _).alloc (Nat.le_refl _) _⟩
  · rw [insOkZ_out a b c (Or.inr h')]
    go_enter Tryd.func33, Tryd.ntmps33
    go_wp2_with fail
    go_ret
    exact ⟨rfl, (Below.refl _ _).alloc (Nat.le_refl _) _⟩
  · have H0 : Hid (∀ w, _) := fun w => insRange_calls op 0 w
    have H1 : Hid (∀ w, _) := fun w => insRange_calls op 1 w
    have H2 : Hid (∀ w, _) := fun w => insRange_calls op 2 w
    rw [insOkZ_in a b c h h']
    generalize insLeast op 0 = l0 at *
    generalize insLeast op 1 = l1 at *
    generalize insLeast op 2 = l2 at *
    generalize insMost op 0 = m0 at *
    generalize insMost op 1 = m1 at *
    generalize insMost op 2 = m2 at *
    have i0 : ∀ w, (Instr.index 88 (.agg #[.int .i64 a, .int .i64 b, .int .i64 c]) (.int .i64 0)).run Tryd.prog w = .ok (.int .i64 a) w := fun _ => by kernel_rfl
    have i1 : ∀ w, (Instr.index 88 (.agg #[.int .i64 a, .int .i64 b, .int .i64 c]) (.int .i64 1)).run Tryd.prog w = .ok (.int .i64 b) w := fun _ => by kernel_rfl
    have i2 : ∀ w, (Instr.index 88 (.agg #[.int .i64 a, .int .i64 b, .int .i64 c]) (.int .i64 2)).run Tryd.prog w = .ok (.int .i64 c) w := fun _ => by kernel_rfl
    generalize hr : decide ((l0 ≤ a ∧ a ≤ m0) ∧ (l1 ≤ b ∧ b ≤ m1) ∧ (l2 ≤ c ∧ c ≤ m2)) = r
    have HF : Hid (¬ ((l0 ≤ a ∧ a ≤ m0) ∧ (l1 ≤ b ∧ b ≤ m1) ∧ (l2 ≤ c ∧ c ≤ m2)) → r = false) := fun hn => by rw [← hr]; exact decide_eq_false hn
    have HT : Hid (((l0 ≤ a ∧ a ≤ m0) ∧ (l1 ≤ b ∧ b ≤ m1) ∧ (l2 ≤ c ∧ c ≤ m2)) → r = true) := fun hn => by rw [← hr]; exact decide_eq_true hn
    clear hr
    go_enter Tryd.func33, Tryd.ntmps33
    go_wp2_with fail
    refine wp_loop_rounds 4 ?_
    rw [rounds_succ]
    go_wp2_with fail
    refine (H0.out _).mono ?_
    rintro e w1 ⟨rfl, rfl⟩
    have ha : a < l0 ∨ (l0 ≤ a ∧ m0 < a) ∨ (l0 ≤ a ∧ a ≤ m0) := by omega
    rcases ha with ha | ⟨ha, ha'⟩ | ⟨ha, ha'⟩
    · go_wp2_with fail
      go_ret
      exact ⟨by rw [HF.out (by omega)]; rfl, (Below.refl _ _).alloc (Nat.le_refl _) _⟩
    · go_wp2_with fail
      go_ret
      exact ⟨by rw [HF.out (by omega)]; rfl, (Below.refl _ _).alloc (Nat.le_refl _) _⟩
    go_wp2_with fail
    rw [rounds_succ]
    go_wp2_with fail
    refine (H1.out _).mono ?_
    rintro e w1 ⟨rfl, rfl⟩
    have hb : b < l1 ∨ (l1 ≤ b ∧ m1 < b) ∨ (l1 ≤ b ∧ b ≤ m1) := by omega
    rcases hb with hb | ⟨hb, hb'⟩ | ⟨hb, hb'⟩
    · go_wp2_with fail
      go_ret
      exact ⟨by rw [HF.out (by omega)]; rfl, (Below.refl _ _).alloc (Nat.le_refl _) _⟩
    · go_wp2_with fail
      go_ret
      exact ⟨by rw [HF.out (by omega)]; rfl, (Below.refl _ _).alloc (Nat.le_refl _) _⟩
    go_wp2_with fail
    rw [rounds_succ]
    go_wp2_with fail
    refine (H2.out _).mono ?_
    rintro e w1 ⟨rfl, rfl⟩
    have hc : c < l2 ∨ (l2 ≤ c ∧ m2 < c) ∨ (l2 ≤ c ∧ c ≤ m2) := by omega
    rcases hc with hc | ⟨hc, hc'⟩ | ⟨hc, hc'⟩
    · go_wp2_with fail
      go_ret
      exact ⟨by rw [HF.out (by omega)]; rfl, (Below.refl _ _).alloc (Nat.le_refl _) _⟩
    · go_wp2_with fail
      go_ret
      exact ⟨by rw [HF.out (by omega)]; rfl, (Below.refl _ _).alloc (Nat.le_refl _) _⟩
    go_wp2_with fail
    rw [rounds_succ]
    go_wp2_with fail
    go_ret
    exact ⟨by rw [HT.out (by omega)]; rfl, (Below.refl _ _).alloc (Nat.le_refl _) _⟩
end Go.Proofs.YtfmkgppkgmjpfaaDoor
