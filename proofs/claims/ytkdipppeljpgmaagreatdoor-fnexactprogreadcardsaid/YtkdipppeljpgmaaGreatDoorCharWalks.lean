/- The tests for letters and digits, of bytes and of runes, answer by the number alone. -/
import Derived.Test.YtkdipppeljpgmaaGreatDoorRows
import Derived.WalkKit
import Derived.ProofKit
import Derived.Lib.OthersKept
import Derived.Deep.LoopGhost
namespace Go.Proofs.YtkdipppeljpgmaaGreatDoor
open Go.RowKit

def letterZ (x : Int) : Bool := decide (97 ≤ x) && decide (x ≤ 122)
def digitZ (x : Int) : Bool := decide (48 ≤ x) && decide (x ≤ 57)

set_option maxRecDepth 100000 in
theorem letter17 (x : Int) (w : World) : Calls Tryz.prog 54 #[.int .u8 x] w fun e w' => e = .returned (.bool (letterZ x)) ∧ w = w' := by
  go_enter Tryz.func54, Tryz.ntmps54
  go_wp2
  · go_ret
    exact ⟨by simp [letterZ, *], rfl⟩
  · go_ret
    exact ⟨by have : ¬ 97 ≤ x := by omega
              simp [letterZ, this], rfl⟩

set_option maxRecDepth 100000 in
theorem digit18 (x : Int) (w : World) : Calls Tryz.prog 52 #[.int .u8 x] w fun e w' => e = .returned (.bool (digitZ x)) ∧ w = w' := by
  go_enter Tryz.func52, Tryz.ntmps52
  go_wp2
  · go_ret
    exact ⟨by simp [digitZ, *], rfl⟩
  · go_ret
    exact ⟨by have : ¬ 48 ≤ x := by omega
              simp [digitZ, this], rfl⟩

set_option maxRecDepth 100000 in
theorem letter19 (x : Int) (w : World) : Calls Tryz.prog 62 #[.int .i32 x] w fun e w' => e = .returned (.bool (letterZ x)) ∧ w = w' := by
  go_enter Tryz.func62, Tryz.ntmps62
  go_wp2
  · go_ret
    exact ⟨by simp [letterZ, *], rfl⟩
  · go_ret
    exact ⟨by have : ¬ 97 ≤ x := by omega
              simp [letterZ, this], rfl⟩

set_option maxRecDepth 100000 in
theorem digit20 (x : Int) (w : World) : Calls Tryz.prog 60 #[.int .i32 x] w fun e w' => e = .returned (.bool (digitZ x)) ∧ w = w' := by
  go_enter Tryz.func60, Tryz.ntmps60
  go_wp2
  · go_ret
    exact ⟨by simp [digitZ, *], rfl⟩
  · go_ret
    exact ⟨by have : ¬ 48 ≤ x := by omega
              simp [digitZ, this], rfl⟩

/-- The byte at a place as a number, 0 where there is none. -/
def bz (s : ByteArray) (j : Nat) : Int := if h : j < s.size then ((s[j]'h).toNat : Int) else 0

theorem bz_at (s : ByteArray) {j : Nat} (h : j < s.size) : bz s j = ((s[j]'h).toNat : Int) := by simp [bz, h]

end Go.Proofs.YtkdipppeljpgmaaGreatDoor
