/- A number of four bytes. -/
import Derived.Test.YtmjcifaihmecmaaByteRows
import Derived.Test.YtmjcifaihmecmaaCodePure
import Derived.BigQuiet
import Derived.Laws.BitsAllLaws
namespace Go.Proofs.Ytmjcifaihmecmaa
open Go.RowKit

/-- A byte's range. -/
def IsB (x : Int) : Prop := 0 ≤ x ∧ x < 256

/-- The number of 32 bits that four bytes are, the highest first. -/
def num4 (x0 x1 x2 x3 : Int) : Int := wrap32 (x0 * 16777216 + x1 * 65536 + x2 * 256 + x3)

theorem or_step (i m a b : Nat) (hm : m = 2 ^ i) (hb : b < m) : (a * m) ||| b = a * m + b := by
  subst hm
  rw [Nat.mul_comm, Nat.two_pow_add_eq_or_of_lt hb]

theorem bits4 (x0 x1 x2 x3 : Int) (h0 : IsB x0) (h1 : IsB x1) (h2 : IsB x2) (h3 : IsB x3) :
    bits BinOp.or IntKind.u32 (bits BinOp.or IntKind.u32 (bits BinOp.or IntKind.u32 (x0 % 4294967296 * 16777216 % 4294967296) (x1 % 4294967296 * 65536 % 4294967296)) (x2 % 4294967296 * 256 % 4294967296)) (x3 % 4294967296) = x0 * 16777216 + x1 * 65536 + x2 * 256 + x3 := by
  obtain ⟨a, rfl⟩ : ∃ a : Nat, x0 = (a : Int) := ⟨x0.toNat, by unfold IsB at h0; omega⟩
  obtain ⟨b, rfl⟩ : ∃ b : Nat, x1 = (b : Int) := ⟨x1.toNat, by unfold IsB at h1; omega⟩
  obtain ⟨c, rfl⟩ : ∃ c : Nat, x2 = (c : Int) := ⟨x2.toNat, by unfold IsB at h2; omega⟩
  obtain ⟨d, rfl⟩ : ∃ d : Nat, x3 = (d : Int) := ⟨x3.toNat, by unfold IsB at h3; omega⟩
  unfold IsB at *
  have e0 : (a : Int) % 4294967296 * 16777216 % 4294967296 = ((a * 16777216 : Nat) : Int) := by omega
  have e1 : (b : Int) % 4294967296 * 65536 % 4294967296 = ((b * 65536 : Nat) : Int) := by omega
  have e2 : (c : Int) % 4294967296 * 256 % 4294967296 = ((c * 256 : Nat) : Int) := by omega
  have e3 : (d : Int) % 4294967296 = ((d : Nat) : Int) := by omega
  rw [e0, e1, e2, e3]
  have f1 : (a * 16777216) ||| (b * 65536) = (a * 256 + b) * 65536 := by
    rw [or_step 24 16777216 a (b * 65536) (by decide) (by omega)]
    omega
  rw [u32_or_nat _ _ (by omega) (by omega), f1]
  have f2 : ((a * 256 + b) * 65536) ||| (c * 256) = ((a * 256 + b) * 256 + c) * 256 := by
    rw [or_step 16 65536 (a * 256 + b) (c * 256) (by decide) (by omega)]
    omega
  rw [u32_or_nat _ _ (by omega) (by omega), f2]
  have f3 : (((a * 256 + b) * 256 + c) * 256) ||| d = ((a * 256 + b) * 256 + c) * 256 + d := or_step 8 256 ((a * 256 + b) * 256 + c) d (by decide) (by omega)
  rw [u32_or_nat _ _ (by omega) (by omega), f3]
  omega

theorem wrap_wrap (n : Int) : wrap64 (wrap32 n) = wrap32 n := by
  unfold wrap64 wrap32
  omega

theorem four_num (x0 x1 x2 x3 : Int) (h0 : IsB x0) (h1 : IsB x1) (h2 : IsB x2) (h3 : IsB x3) : four (num4 x0 x1 x2 x3) = [x0, x1, x2, x3] := by
  unfold IsB at *
  unfold four num4 wrap32
  have e0 : ((x0 * 16777216 + x1 * 65536 + x2 * 256 + x3 + 2147483648) % 4294967296 - 2147483648) / 16777216 % 256 = x0 := by omega
  have e1 : ((x0 * 16777216 + x1 * 65536 + x2 * 256 + x3 + 2147483648) % 4294967296 - 2147483648) / 65536 % 256 = x1 := by omega
  have e2 : ((x0 * 16777216 + x1 * 65536 + x2 * 256 + x3 + 2147483648) % 4294967296 - 2147483648) / 256 % 256 = x2 := by omega
  have e3 : ((x0 * 16777216 + x1 * 65536 + x2 * 256 + x3 + 2147483648) % 4294967296 - 2147483648) % 256 = x3 := by omega
  rw [e0, e1, e2, e3]

set_option maxHeartbeats 1000000 in
set_option maxRecDepth 100000 in
theorem l5Number_calls (b off len cap : Nat) (x0 x1 x2 x3 : Int) (w : World) (hl : 4 ≤ len) (b0 : IsB x0) (b1 : IsB x1) (b2 : IsB x2) (b3 : IsB x3)
    (h0 : w.cell? ⟨b, off, none⟩ = some (.int .u8 x0)) (h1 : w.cell? ⟨b, off + 1, none⟩ = some (.int .u8 x1)) (h2 : w.cell? ⟨b, off + 2, none⟩ = some (.int .u8 x2)) (h3 : w.cell? ⟨b, off + 3, none⟩ = some (.int .u8 x3)) :
    Calls Try.prog 29 #[.slice (some ⟨b, off, none⟩) len cap] w fun e w' => e = .returned (.int .i64 (num4 x0 x1 x2 x3)) ∧ Below w.heap.size w w' := by
  have HB := hid (bits4 x0 x1 x2 x3 b0 b1 b2 b3)
  have g0 : (0 : Int) < (len : Int) := by omega
  have g1 : (1 : Int) < (len : Int) := by omega
  have g2 : (2 : Int) < (len : Int) := by omega
  have g3 : (3 : Int) < (len : Int) := by omega
  obtain ⟨R, hR⟩ : ∃ R, num4 x0 x1 x2 x3 = R := ⟨_, rfl⟩
  have HR := hid hR
  rw [hR]
  clear hR b0 b1 b2 b3
  go_enter Try.func29, Try.ntmps29
  go_wp2
  go_quiet (fail)
  go_wp2
  go_ret
  rw [HB.out, wrap_wrap]
  exact ⟨by rw [← HR.out]; rfl, below_drewN (Below.refl _ _) _⟩
end Go.Proofs.Ytmjcifaihmecmaa
