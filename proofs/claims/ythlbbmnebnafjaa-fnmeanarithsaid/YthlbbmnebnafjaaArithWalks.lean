/- The reckoning of the specification and of the program both answer one and the same, with numbers of 32 bits that wrap. -/
import Derived.Test.YthlbbmnebnafjaaRows
import Derived.WalkKit
import Derived.ProofKit
namespace Go.Proofs.Ythlbbmnebnafjaa
open Go.RowKit

def oneIf (c : Prop) [Decidable c] : Int := if c then 1 else 0

def arithZ (k a b : Int) : Int :=
  if k = 11 then wrap32 (wrap32 a + wrap32 b)
  else if k = 12 then wrap32 (wrap32 a - wrap32 b)
  else if k = 13 then wrap32 (wrap32 a * wrap32 b)
  else if k = 14 then oneIf (wrap32 a = wrap32 b)
  else if k = 15 then oneIf (wrap32 a < wrap32 b)
  else 0

theorem wrap64_wrap32 (n : Int) : wrap64 (wrap32 n) = wrap32 n := by unfold wrap64 wrap32; omega

set_option maxRecDepth 100000 in
theorem implArith_calls (k a b : Int) (w : World) :
    Calls Try.prog 6 #[.int .i64 k, .int .i64 a, .int .i64 b] w fun e w' => e = .returned (.int .i64 (arithZ k a b)) ∧ w = w' := by
  go_enter Try.func6, Try.ntmps6
  go_wp2
  all_goals
    go_ret
    refine ⟨?_, rfl⟩
    simp_all [arithZ, oneIf, wrap64_wrap32]

theorem wrap32_wrap64 (n : Int) : wrap32 (wrap64 n) = wrap32 n := by unfold wrap64 wrap32; omega

theorem wrap32_twice (n : Int) : wrap32 (wrap32 n) = wrap32 n := by unfold wrap32; omega

set_option maxRecDepth 100000 in
theorem specWrap_calls (n : Int) (w : World) :
    Calls Try.prog 10 #[.int .i64 n] w fun e w' => e = .returned (.int .i64 (wrap32 n)) ∧ w = w' := by
  go_enter Try.func10, Try.ntmps10
  go_wp2
  go_ret
  refine ⟨?_, rfl⟩
  have e : wrap64 (wrap32 (IntKind.u64.wrap n % 4294967296)) = wrap32 n := by
    rw [wrap64_wrap32, IntKind.wrap_u64]
    unfold wrap32
    omega
  show Ending.returned (Value.int IntKind.i64 (wrap64 (wrap32 (IntKind.u64.wrap n % 4294967296)))) = _
  rw [e]

set_option maxRecDepth 100000 in
theorem specOne_calls (b : Bool) (w : World) :
    Calls Try.prog 11 #[.bool b] w fun e w' => e = .returned (.int .i64 (if b then 1 else 0)) ∧ w = w' := by
  go_enter Try.func11, Try.ntmps11
  cases b
  all_goals
    go_wp2
    go_ret
    exact ⟨rfl, rfl⟩

set_option maxRecDepth 100000 in
theorem specArith_calls (k a b : Int) (w : World) :
    Calls Try.prog 7 #[.int .i64 k, .int .i64 a, .int .i64 b] w fun e w' => e = .returned (.int .i64 (arithZ k a b)) ∧ w = w' := by
  go_enter Try.func7, Try.ntmps7
  go_wp2_with fail
  refine (specWrap_calls _ _).mono ?_
  rintro e w1 ⟨rfl, rfl⟩
  go_wp2_with fail
  refine (specWrap_calls _ _).mono ?_
  rintro e w1 ⟨rfl, rfl⟩
  go_wp2_with fail
  · refine (specWrap_calls _ _).mono ?_
    rintro e w1 ⟨rfl, rfl⟩
    go_wp2
    go_ret
    refine ⟨?_, rfl⟩
    simp_all [arithZ, wrap32_wrap64]
  · refine (specWrap_calls _ _).mono ?_
    rintro e w1 ⟨rfl, rfl⟩
    go_wp2
    go_ret
    refine ⟨?_, rfl⟩
    simp_all [arithZ, wrap32_wrap64]
  · refine (specWrap_calls _ _).mono ?_
    rintro e w1 ⟨rfl, rfl⟩
    go_wp2
    go_ret
    refine ⟨?_, rfl⟩
    simp_all [arithZ, wrap32_wrap64]
  · refine (specOne_calls _ _).mono ?_
    rintro e w1 ⟨rfl, rfl⟩
    go_wp2
    all_goals
      go_ret
      refine ⟨?_, rfl⟩
      simp_all [arithZ, oneIf]
  · refine (specOne_calls _ _).mono ?_
    rintro e w1 ⟨rfl, rfl⟩
    go_wp2
    all_goals
      go_ret
      refine ⟨?_, rfl⟩
      simp_all [arithZ, oneIf]
  · go_ret
    refine ⟨?_, rfl⟩
    simp_all [arithZ]
end Go.Proofs.Ythlbbmnebnafjaa
