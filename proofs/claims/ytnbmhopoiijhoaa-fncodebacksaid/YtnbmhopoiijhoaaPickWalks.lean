/- A number drawn out of bytes is from 0 on and below its bound. -/
import Derived.Test.YtnbmhopoiijhoaaRows
import Derived.WalkKit
import Derived.ProofKit
import Derived.Laws.Bits64
namespace Go.Proofs.Ytnbmhopoiijhoaa
open Go.RowKit

structure Picked (B : Nat) (p : Nat) (w w' : World) : Prop where
  cell0 : w'.cell? ⟨B, 0, none⟩ = w.cell? ⟨B, 0, none⟩
  cell1 : w'.cell? ⟨B, 1, none⟩ = some (.int .i64 ((p : Int) + 1))
  frozen : w'.frozen? ⟨B, 1, none⟩ = w.frozen? ⟨B, 1, none⟩
  other : ∀ a : Addr, a.block ≠ B → w'.cell? a = w.cell? a
  below : ∀ n, n ≤ B → Below n w w'
  how : w' = w.setCell ⟨B, 1, none⟩ (.int .i64 ((p : Int) + 1)) ∨ w' = (w.setCell ⟨B, 1, none⟩ (.int .i64 ((p : Int) + 1))).drew

theorem picked_set (B p : Nat) (w : World) (h1 : w.cell? ⟨B, 1, none⟩ = some (.int .i64 p)) : Picked B p w (w.setCell ⟨B, 1, none⟩ (.int .i64 ((p : Int) + 1))) where
  cell0 := by simp [go_sem]
  cell1 := World.cell?_setCell_same' _ _ _ (by rw [h1]; rfl)
  frozen := by simp
  other := fun a ha => World.cell?_of_block (w := w) (Below.heap_setCell w _ _ a.block ha)
  below := fun n hn => (Below.refl n w).setCell hn _
  how := Or.inl rfl

theorem picked_drew (B p : Nat) (w : World) (h1 : w.cell? ⟨B, 1, none⟩ = some (.int .i64 p)) : Picked B p w (w.setCell ⟨B, 1, none⟩ (.int .i64 ((p : Int) + 1))).drew where
  cell0 := (picked_set B p w h1).cell0
  cell1 := (picked_set B p w h1).cell1
  frozen := (picked_set B p w h1).frozen
  other := (picked_set B p w h1).other
  below := fun n hn => ((picked_set B p w h1).below n hn).drew
  how := Or.inr rfl

theorem xor_i64 (a b : Nat) (ha : a < 4611686018427387904) (hb : b < 4611686018427387904) :
    bits .xor .i64 (a : Int) (b : Int) = ((a ^^^ b : Nat) : Int) := by
  have hx : a ^^^ b < 2 ^ 62 := Nat.xor_lt_two_pow (by omega) (by omega)
  have h1 : (BitVec.ofInt 64 (a : Int)).toNat = a := by
    rw [BitVec.ofInt_natCast, BitVec.toNat_ofNat]; exact Nat.mod_eq_of_lt (by omega)
  have h2 : (BitVec.ofInt 64 (b : Int)).toNat = b := by
    rw [BitVec.ofInt_natCast, BitVec.toNat_ofNat]; exact Nat.mod_eq_of_lt (by omega)
  show IntKind.i64.wrap ((BitVec.ofInt 64 (a : Int) ^^^ BitVec.ofInt 64 (b : Int)).toNat : Int) = _
  rw [BitVec.toNat_xor, h1, h2, IntKind.wrap_i64]
  omega

def PickPost (B p : Nat) (n : Int) (w : World) (e : Ending) (w' : World) : Prop :=
  (∃ r, e = .returned (.int .i64 r) ∧ 0 ≤ r ∧ (0 < n → r < n)) ∧ Picked B p w w'

set_option maxRecDepth 100000 in
theorem pick_none (B : Nat) (a0 : Option Addr) (len cap : Nat) (p : Nat) (n : Int) (w : World)
    (h0 : w.cell? ⟨B, 0, none⟩ = some (.slice a0 len cap)) (h1 : w.cell? ⟨B, 1, none⟩ = some (.int .i64 p))
    (hfz : w.frozen? ⟨B, 1, none⟩ = false) (hp : p ≤ 1000000) (hn : n < 1 ∨ len = 0) :
    Calls Try.prog 13 #[.pointer (some ⟨B, 0, none⟩), .int .i64 n] w (PickPost B p n w) := by
  have hn' : n < 1 ∨ ((len : Int) == 0) = true := by
    rcases hn with h | h
    · exact Or.inl h
    · exact Or.inr (by simp [h])
  rcases hn' with hn' | hn'
  all_goals
    go_enter Try.func13, Try.ntmps13
    go_wp2
    all_goals
      go_ret
      exact ⟨⟨0, rfl, Int.le_refl _, fun h => h⟩, picked_set B p w h1⟩

set_option maxRecDepth 100000 in
theorem pick_near (B b off : Nat) (len cap : Nat) (p : Nat) (z n : Int) (w : World)
    (h0 : w.cell? ⟨B, 0, none⟩ = some (.slice (some ⟨b, off, none⟩) len cap)) (h1 : w.cell? ⟨B, 1, none⟩ = some (.int .i64 p))
    (hfz : w.frozen? ⟨B, 1, none⟩ = false) (hp : p ≤ 1000000) (hn : 1 ≤ n) (hlt : p < len) (hbB : b ≠ B)
    (hz : w.cell? ⟨b, off + p, none⟩ = some (.int .u8 z)) (hz0 : 0 ≤ z) (hz1 : z ≤ 255) :
    Calls Try.prog 13 #[.pointer (some ⟨B, 0, none⟩), .int .i64 n] w (PickPost B p n w) := by
  have hl : ((len : Int) == 0) = false := by simp; omega
  go_enter Try.func13, Try.ntmps13
  go_wp2
  go_ret
  exact ⟨⟨z % n, rfl, Int.emod_nonneg _ (by omega), fun h => Int.emod_lt_of_pos _ h⟩, picked_set B p w h1⟩

theorem far_sum (z y : Int) (p len : Nat) (hp : p ≤ 1000000) (hz0 : 0 ≤ z) (hz1 : z ≤ 255) (hy0 : 0 ≤ y) (hy1 : y ≤ 255) :
    ∃ x : Nat, x ≤ 1000000000000 ∧ wrap64 (z * 131 + y * 1117 + (p : Int) * 29 + wrap64 (wrap64 ((p : Int) / (len : Int)) * 53)) = (x : Int) := by
  have hq : ((p : Int) / (len : Int)) = ((p / len : Nat) : Int) := by omega
  have hq2 : p / len ≤ p := Nat.div_le_self _ _
  rw [hq]
  generalize p / len = q at hq2
  rw [IntWalk.wrap64_in (q : Int) ⟨by omega, by omega⟩, IntWalk.wrap64_in ((q : Int) * 53) ⟨by omega, by omega⟩, IntWalk.wrap64_in _ ⟨by omega, by omega⟩]
  exact ⟨(z * 131 + y * 1117 + (p : Int) * 29 + (q : Int) * 53).toNat, by omega, by omega⟩

theorem far_nat (x : Nat) (hx : x ≤ 1000000000000) : bits .xor .i64 (x : Int) (wrap64 ((x : Int) / 64)) = ((x ^^^ (x / 64) : Nat) : Int) := by
  rw [show ((x : Int) / 64) = ((x / 64 : Nat) : Int) by omega, IntWalk.wrap64_in _ ⟨by omega, by omega⟩]
  exact xor_i64 _ _ (by omega) (by omega)

theorem far_low (x : Nat) (hx : x ≤ 1000000000000) (n : Int) : 0 ≤ (bits .xor .i64 (x : Int) (wrap64 ((x : Int) / 64))).tmod n := by
  rw [far_nat x hx]
  exact Int.tmod_nonneg _ (Int.natCast_nonneg _)

theorem far_high (x : Nat) (hx : x ≤ 1000000000000) (n : Int) (hn : 0 < n) : (bits .xor .i64 (x : Int) (wrap64 ((x : Int) / 64))).tmod n < n := by
  rw [far_nat x hx]
  exact Int.tmod_lt_of_pos _ hn

set_option maxRecDepth 100000 in
theorem pick_far (B b off : Nat) (len cap : Nat) (p : Nat) (z y n : Int) (w : World)
    (h0 : w.cell? ⟨B, 0, none⟩ = some (.slice (some ⟨b, off, none⟩) len cap)) (h1 : w.cell? ⟨B, 1, none⟩ = some (.int .i64 p))
    (hfz : w.frozen? ⟨B, 1, none⟩ = false) (hp : p ≤ 1000000) (hn : 1 ≤ n) (hl1 : 1 ≤ len) (hlt : len ≤ p) (hbB : b ≠ B)
    (i j : Nat) (hi : ((p : Int)) % (len : Int) = i) (hj : ((p : Int) * 7 + 3) % (len : Int) = j) (hil : i < len) (hjl : j < len)
    (hz : w.cell? ⟨b, off + i, none⟩ = some (.int .u8 z)) (hz0 : 0 ≤ z) (hz1 : z ≤ 255)
    (hy : w.cell? ⟨b, off + j, none⟩ = some (.int .u8 y)) (hy0 : 0 ≤ y) (hy1 : y ≤ 255) :
    Calls Try.prog 13 #[.pointer (some ⟨B, 0, none⟩), .int .i64 n] w (PickPost B p n w) := by
  have hl : ((len : Int) == 0) = false := by simp; omega
  obtain ⟨x, hx, ex⟩ := far_sum z y p len hp hz0 hz1 hy0 hy1
  have hx' : Hid (x ≤ 1000000000000) := hx
  have ex' : Hid (wrap64 (z * 131 + y * 1117 + (p : Int) * 29 + wrap64 (wrap64 ((p : Int) / (len : Int)) * 53)) = (x : Int)) := ex
  clear ex hx
  go_enter Try.func13, Try.ntmps13
  go_wp2
  go_region
  rw [ex'.out]
  go_wp2
  go_ret
  refine ⟨⟨_, rfl, ?_, ?_⟩, picked_drew B p w h1⟩
  · exact far_low x hx'.out n
  · exact far_high x hx'.out n

theorem pick_calls (B : Nat) (a0 : Option Addr) (len cap : Nat) (p : Nat) (n : Int) (w : World)
    (h0 : w.cell? ⟨B, 0, none⟩ = some (.slice a0 len cap)) (h1 : w.cell? ⟨B, 1, none⟩ = some (.int .i64 p))
    (hfz : w.frozen? ⟨B, 1, none⟩ = false) (hp : p ≤ 1000000)
    (hc : 0 < len → ∃ b off, a0 = some ⟨b, off, none⟩ ∧ b ≠ B ∧ ∀ i, i < len → ∃ z, w.cell? ⟨b, off + i, none⟩ = some (.int .u8 z) ∧ 0 ≤ z ∧ z ≤ 255) :
    Calls Try.prog 13 #[.pointer (some ⟨B, 0, none⟩), .int .i64 n] w (PickPost B p n w) := by
  by_cases hn : n < 1 ∨ len = 0
  · exact pick_none B a0 len cap p n w h0 h1 hfz hp hn
  · have hl : 0 < len := by omega
    obtain ⟨b, off, rfl, hbB, hz⟩ := hc hl
    by_cases hlt : p < len
    · obtain ⟨z, hz, hz0, hz1⟩ := hz p hlt
      exact pick_near B b off len cap p z n w h0 h1 hfz hp (by omega) hlt hbB hz hz0 hz1
    · obtain ⟨z, hzc, hz0, hz1⟩ := hz (p % len) (Nat.mod_lt _ hl)
      obtain ⟨y, hyc, hy0, hy1⟩ := hz ((p * 7 + 3) % len) (Nat.mod_lt _ hl)
      exact pick_far B b off len cap p z y n w h0 h1 hfz hp (by omega) hl (by omega) hbB (p % len) ((p * 7 + 3) % len) (by omega) (by first | (push_cast; rfl) | simp)
        (Nat.mod_lt _ hl) (Nat.mod_lt _ hl) hzc hz0 hz1 hyc hy0 hy1
end Go.Proofs.Ytnbmhopoiijhoaa
