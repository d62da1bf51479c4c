/- The lowest bits of a number, in plain words. -/
import Derived.Test.YtebpgglegnljgaaRows
import Derived.WalkKit
import Derived.ProofKit
namespace Go.Proofs.Ytebpgglegnljgaa
open Go.RowKit

theorem ofInt_toNat (x : Int) : ((BitVec.ofInt 64 x).toNat : Int) = x % 18446744073709551616 := by
  rw [BitVec.toNat_ofInt]
  omega

theorem and_low (x : Int) (k : Nat) (hk : k ≤ 8) (m : Int) (hm : m = ((2 ^ k - 1 : Nat) : Int)) : bits .and .i64 x m = x % ((2 ^ k : Nat) : Int) := by
  subst hm
  have hp : 2 ^ k ≤ 256 := Nat.pow_le_pow_right (n := 2) (by decide) hk
  have hp0 : 0 < 2 ^ k := Nat.pow_pos (by decide)
  have h1 := ofInt_toNat x
  have h2 : (BitVec.ofInt 64 ((2 ^ k - 1 : Nat) : Int)).toNat = 2 ^ k - 1 := by
    rw [BitVec.ofInt_natCast, BitVec.toNat_ofNat]
    exact Nat.mod_eq_of_lt (by omega)
  show IntKind.i64.wrap ((BitVec.ofInt 64 x &&& BitVec.ofInt 64 ((2 ^ k - 1 : Nat) : Int)).toNat : Int) = _
  rw [BitVec.toNat_and, h2, Nat.and_two_pow_sub_one_eq_mod, IntKind.wrap_i64]
  generalize (BitVec.ofInt 64 x).toNat = y at h1 ⊢
  have h3 : ((y % 2 ^ k : Nat) : Int) = (y : Int) % ((2 ^ k : Nat) : Int) := by simp
  have h4 : y % 2 ^ k < 2 ^ k := Nat.mod_lt _ hp0
  have h5 : (18446744073709551616 : Int) = ((2 ^ k : Nat) : Int) * ((2 ^ (64 - k) : Nat) : Int) := by
    rw [← Int.natCast_mul, ← Nat.pow_add, Nat.add_sub_cancel' (by omega)]
    rfl
  have h6 : (y : Int) % ((2 ^ k : Nat) : Int) = x % ((2 ^ k : Nat) : Int) := by
    rw [h1, h5, Int.emod_emod_of_dvd]
    exact ⟨_, rfl⟩
  rw [← h6, ← h3]
  generalize y % 2 ^ k = z at h4 ⊢
  generalize 2 ^ k = u at *
  omega

theorem and7 (x : Int) : bits .and .i64 x 7 = x % 8 := and_low x 3 (by decide) 7 rfl
theorem and15 (x : Int) : bits .and .i64 x 15 = x % 16 := and_low x 4 (by decide) 15 rfl
end Go.Proofs.Ytebpgglegnljgaa
