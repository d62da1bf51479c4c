/- The tests for letters and digits, of bytes and of runes, answer by the number alone. -/
import Derived.Test.YtnhofdngmbnlkaaRows
import Derived.WalkKit
import Derived.ProofKit
import Derived.Lib.OthersKept
import Derived.Deep.LoopGhost
namespace Go.Proofs.Ytnhofdngmbnlkaa
open Go.RowKit

def letterZ (x : Int) : Bool := decide (97 ≤ x) && decide (x ≤ 122)
def digitZ (x : Int) : Bool := decide (48 ≤ x) && decide (x ≤ 57)

set_option maxRecDepth 100000 in
theorem letter17 (x : Int) (w : World) : Calls Try.prog 23 #[.int .u8 x] w fun e w' => e = .returned (.bool (letterZ x)) ∧ w = w' := by
  go_enter Try.func23, Try.ntmps23
  go_wp2
  · go_ret
    exact ⟨by simp [letterZ, *], rfl⟩
  · go_ret
    exact ⟨by have : ¬ 97 ≤ x := by omega
              simp [letterZ, this], rfl⟩

set_option maxRecDepth 100000 in
theorem digit18 (x : Int) (w : World) : Calls Try.prog 21 #[.int .u8 x] w fun e w' => e = .returned (.bool (digitZ x)) ∧ w = w' := by
  go_enter Try.func21, Try.ntmps21
  go_wp2
  · go_ret
    exact ⟨by simp [digitZ, *], rfl⟩
  · go_ret
    exact ⟨by have : ¬ 48 ≤ x := by omega
              simp [digitZ, this], rfl⟩

set_option maxRecDepth 100000 in
theorem letter19 (x : Int) (w : World) : Calls Try.prog 17 #[.int .i32 x] w fun e w' => e = .returned (.bool (letterZ x)) ∧ w = w' := by
  go_enter Try.func17, Try.ntmps17
  go_wp2
  · go_ret
    exact ⟨by simp [letterZ, *], rfl⟩
  · go_ret
    exact ⟨by have : ¬ 97 ≤ x := by omega
              simp [letterZ, this], rfl⟩

set_option maxRecDepth 100000 in
theorem digit20 (x : Int) (w : World) : Calls Try.prog 15 #[.int .i32 x] w fun e w' => e = .returned (.bool (digitZ x)) ∧ w = w' := by
  go_enter Try.func15, Try.ntmps15
  go_wp2
  · go_ret
    exact ⟨by simp [digitZ, *], rfl⟩
  · go_ret
    exact ⟨by have : ¬ 48 ≤ x := by omega
              simp [digitZ, this], rfl⟩

/-- The byte at a place as a number, 0 where there is none. -/
def bz (s : ByteArray) (j : Nat) : Int := if h : j < s.size then ((s[j]'h).toNat : Int) else 0

theorem bz_at (s : ByteArray) {j : Nat} (h : j < s.size) : bz s j = ((s[j]'h).toNat : Int) := by simp [bz, h]

end Go.Proofs.Ytnhofdngmbnlkaa
