/- A number drawn out of bytes is from 0 on and below its bound. -/
import Derived.Test.YtkdipppeljpgmaaGreatDoorRows
import Derived.WalkKit
import Derived.ProofKit
import Derived.Laws.Bits64
namespace Go.Proofs.YtkdipppeljpgmaaGreatDoor
open Go.RowKit

structure Picked (B : Nat) (p : Nat) (w w' : World) : Prop where
  cell0 : w'.cell? ⟨B, 0, none⟩ = w.cell? ⟨B, 0, none⟩
  cell1 : w'.cell? ⟨B, 1, none⟩ = some (.int .i64 ((p : Int) + 1))
  frozen : w'.frozen? ⟨B, 1, none⟩ = w.frozen? ⟨B, 1, none⟩
  other : ∀ a : Addr, a.block ≠ B → w'.cell? a = w.cell? a
  below : ∀ n, n ≤ B → Below n w w'
  how : w' = w.setCell ⟨B, 1, none⟩ (.int .i64 ((p : Int) + 1)) ∨ w' = (w.setCell ⟨B, 1, none⟩ (.int .i64 ((p : Int) + 1))).drew

theorem picked_set (B p : Nat) (w : World) (h1 : w.cell? ⟨B, 1, none⟩ = some (.int .i64 p)) : Picked B p w (w.setCell ⟨B, 1, none⟩ (.int .i64 ((p : Int) + 1))) where
  cell0 := by simp [go_sem]
  cell1 := World.cell?_setCell_same' _ _ _ (by rw [h1]; rfl)
  frozen := by simp
  other := fun a ha => World.cell?_of_block (w := w) (Below.heap_setCell w _ _ a.block ha)
  below := fun n hn => (Below.refl n w).setCell hn _
  how := Or.inl rfl

theorem picked_drew (B p : Nat) (w : World) (h1 : w.cell? ⟨B, 1, none⟩ = some (.int .i64 p)) : Picked B p w (w.setCell ⟨B, 1, none⟩ (.int .i64 ((p : Int) + 1))).drew where
  cell0 := (picked_set B p w h1).cell0
  cell1 := (picked_set B p w h1).cell1
  frozen := (picked_set B p w h1).frozen
  other := (picked_set B p w h1).other
  below := fun n hn => ((picked_set B p w h1).below n hn).drew
  how := Or.inr rfl

theorem xor_i64 (a b : Nat) (ha : a < 4611686018427387904) (hb : b < 4611686018427387904) :
    bits .xor .i64 (a : Int) (b : Int) = ((a ^^^ b : Nat) : Int) := by
  have hx : a ^^^ b < 2 ^ 62 := Nat.xor_lt_two_pow (by omega) (by omega)
  have h1 : (BitVec.ofInt 64 (a : Int)).toNat = a := by
    rw [BitVec.ofInt_natCast, BitVec.toNat_ofNat]; exact Nat.mod_eq_of_lt (by omega)
  have h2 : (BitVec.ofInt 64 (b : Int)).toNat = b := by
    rw [BitVec.ofInt_natCast, BitVec.toNat_ofNat]; exact Nat.mod_eq_of_lt (by omega)
  show IntKind.i64.wrap ((BitVec.ofInt 64 (a : Int) ^^^ BitVec.ofInt 64 (b : Int)).toNat : Int) = _
  rw [BitVec.toNat_xor, h1, h2, IntKind.wrap_i64]
  omega

def PickPost (B p : Nat) (n : Int) (w : World) (e : Ending) (w' : World) : Prop :=
  (∃ r, e = .returned (.int .i64 r) ∧ 0 ≤ r ∧ (0 < n → r < n)) ∧ Picked B p w w'

theorem far_sum (z y : Int) (p len : Nat) (hp : p ≤ 1000000) (hz0 : 0 ≤ z) (hz1 : z ≤ 255) (hy0 : 0 ≤ y) (hy1 : y ≤ 255) :
    ∃ x : Nat, x ≤ 1000000000000 ∧ wrap64 (z * 131 + y * 1117 + (p : Int) * 29 + wrap64 (wrap64 ((p : Int) / (len : Int)) * 53)) = (x : Int) := by
  have hq : ((p : Int) / (len : Int)) = ((p / len : Nat) : Int) := by omega
  have hq2 : p / len ≤ p := Nat.div_le_self _ _
  rw [hq]
  generalize p / len = q at hq2
  rw [IntWalk.wrap64_in (q : Int) ⟨by omega, by omega⟩, IntWalk.wrap64_in ((q : Int) * 53) ⟨by omega, by omega⟩, IntWalk.wrap64_in _ ⟨by omega, by omega⟩]
  exact ⟨(z * 131 + y * 1117 + (p : Int) * 29 + (q : Int) * 53).toNat, by omega, by omega⟩

theorem far_nat (x : Nat) (hx : x ≤ 1000000000000) : bits .xor .i64 (x : Int) (wrap64 ((x : Int) / 64)) = ((x ^^^ (x / 64) : Nat) : Int) := by
  rw [show ((x : Int) / 64) = ((x / 64 : Nat) : Int) by omega, IntWalk.wrap64_in _ ⟨by omega, by omega⟩]
  exact xor_i64 _ _ (by omega) (by omega)

theorem far_low (x : Nat) (hx : x ≤ 1000000000000) (n : Int) : 0 ≤ (bits .xor .i64 (x : Int) (wrap64 ((x : Int) / 64))).tmod n := by
  rw [far_nat x hx]
  exact Int.tmod_nonneg _ (Int.natCast_nonneg _)

theorem far_high (x : Nat) (hx : x ≤ 1000000000000) (n : Int) (hn : 0 < n) : (bits .xor .i64 (x : Int) (wrap64 ((x : Int) / 64))).tmod n < n := by
  rw [far_nat x hx]
  exact Int.tmod_lt_of_pos _ hn

end Go.Proofs.YtkdipppeljpgmaaGreatDoor