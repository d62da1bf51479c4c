/- The reader of drawn numbers: opened over bytes, and drawn from. -/
import Derived.Test.YtbfffjnfbahiiaaRows
import Derived.Test.YtbfffjnfbahiiaaPickWalks
import Derived.WalkKit
import Derived.ProofKit
import Derived.OwnWalk
import Derived.Deep.RegionHeld
namespace Go.Proofs.Ytbfffjnfbahiiaa
open Go.RowKit

/-- A slice of bytes in a world. -/
def BytesAt (w : World) (a0 : Option Addr) (len : Nat) : Prop :=
  0 < len → ∃ b off, a0 = some ⟨b, off, none⟩ ∧ b < w.heap.size ∧ ∀ i, i < len → ∃ z, w.cell? ⟨b, off + i, none⟩ = some (.int .u8 z) ∧ 0 ≤ z ∧ z ≤ 255

set_option maxRecDepth 100000 in
theorem open_calls (a0 : Option Addr) (len cap : Nat) (w : World) (hlen : len ≤ 1000000000) (hb : len ≤ cap) :
    Calls Try.prog 24 #[.slice a0 len cap] w fun e w' => e = .returned (.pointer (some ⟨w.heap.size, 0, none⟩)) ∧
      ∃ n : Nat, n ≤ len ∧ w' = w.alloc (.cells #[.slice a0 n cap, .int .i64 0] 44) := by
  by_cases h : (2000 : Int) < (len : Int)
  · go_enter Try.func24, Try.ntmps24
    go_wp2
    go_ret
    exact ⟨rfl, 2000, by omega, rfl⟩
  · go_enter Try.func24, Try.ntmps24
    go_wp2
    go_ret
    exact ⟨rfl, len, Nat.le_refl _, rfl⟩

/-- The reader of bytes in block 'B', 'q' numbers drawn. -/
structure RdSt (w0 : World) (B : Nat) (a0 : Option Addr) (n cap : Nat) (q : Nat) (w' : World) : Prop where
  cell0 : w'.cell? ⟨B, 0, none⟩ = some (.slice a0 n cap)
  cell1 : w'.cell? ⟨B, 1, none⟩ = some (.int .i64 q)
  frozen : w'.frozen? ⟨B, 1, none⟩ = false
  bytes : 0 < n → ∃ b off, a0 = some ⟨b, off, none⟩ ∧ b ≠ B ∧ ∀ i, i < n → ∃ z, w'.cell? ⟨b, off + i, none⟩ = some (.int .u8 z) ∧ 0 ≤ z ∧ z ≤ 255
  low : w0.heap.size ≤ B
  below : Below w0.heap.size w0 w'

theorem RdSt.drew {w0 : World} {B : Nat} {a0 : Option Addr} {n cap : Nat} {q : Nat} {w' : World} (h : RdSt w0 B a0 n cap q w') : RdSt w0 B a0 n cap q w'.drew :=
  ⟨h.cell0, h.cell1, h.frozen, h.bytes, h.low, h.below.drew⟩

theorem rd_pick {w0 : World} {B : Nat} {a0 : Option Addr} {n cap : Nat} {q : Nat} {w' : World} (h : RdSt w0 B a0 n cap q w') (hq : q ≤ 1000) (k : Nat) (hk : 0 < k) :
    Calls Try.prog 25 #[.pointer (some ⟨B, 0, none⟩), .int .i64 k] w' fun e w2 => ∃ m : Nat, e = .returned (.int .i64 m) ∧ m < k ∧ RdSt w0 B a0 n cap (q + 1) w2 := by
  refine (pick_calls B a0 n cap q k w' h.cell0 h.cell1 h.frozen (by omega) h.bytes).mono ?_
  rintro e w2 ⟨⟨r, rfl, hr0, hr1⟩, hP⟩
  have hr1 := hr1 (by omega)
  refine ⟨r.toNat, by rw [Int.toNat_of_nonneg hr0], by omega, ?_⟩
  refine ⟨hP.cell0.trans h.cell0, by rw [hP.cell1]; push_cast; rfl, hP.frozen.trans h.frozen, ?_, h.low, h.below.trans (hP.below _ h.low)⟩
  intro hn
  obtain ⟨b, off, ea, hb, hz⟩ := h.bytes hn
  refine ⟨b, off, ea, hb, fun i hi => ?_⟩
  rw [hP.other _ hb]
  exact hz i hi

theorem rd_start (w : World) (a0 : Option Addr) (len cap n : Nat) (hn : n ≤ len) (hB : BytesAt w a0 len) :
    RdSt w w.heap.size a0 n cap 0 (w.alloc (.cells #[.slice a0 n cap, .int .i64 0] 44)) where
  cell0 := by simp [go_sem]
  cell1 := by simp [go_sem]
  frozen := by simp [go_sem]
  bytes := by
    intro h
    obtain ⟨b, off, ea, hb, hz⟩ := hB (by omega)
    refine ⟨b, off, ea, by omega, fun i hi => ?_⟩
    obtain ⟨z, hz, h0, h1⟩ := hz i (by omega)
    refine ⟨z, ?_, h0, h1⟩
    rw [← hz]
    exact (((Below.refl w.heap.size w).alloc (Nat.le_refl _) _).cell (p := ⟨b, off + i, none⟩) hb)
  low := Nat.le_refl _
  below := (Below.refl _ _).alloc (Nat.le_refl _) _

theorem rd_open (a0 : Option Addr) (len cap : Nat) (w : World) (hlen : len ≤ 1000000000) (hb : len ≤ cap) (hB : BytesAt w a0 len) :
    Calls Try.prog 24 #[.slice a0 len cap] w fun e w' => e = .returned (.pointer (some ⟨w.heap.size, 0, none⟩)) ∧
      ∃ n : Nat, n ≤ len ∧ RdSt w w.heap.size a0 n cap 0 w' := by
  refine (open_calls a0 len cap w hlen hb).mono ?_
  rintro e w' ⟨rfl, n, hn, rfl⟩
  exact ⟨rfl, n, hn, rd_start w a0 len cap n hn hB⟩

theorem BytesAt.below {w w' : World} {a0 : Option Addr} {len : Nat} (h : BytesAt w a0 len) (hb : Below w.heap.size w w') : BytesAt w' a0 len := by
  intro h0
  obtain ⟨b, off, ea, hlt, hz⟩ := h h0
  refine ⟨b, off, ea, Nat.lt_of_lt_of_le hlt hb.size, fun i hi => ?_⟩
  obtain ⟨z, hz, h0, h1⟩ := hz i hi
  exact ⟨z, by rw [← hz]; exact hb.cell (p := ⟨b, off + i, none⟩) hlt, h0, h1⟩
end Go.Proofs.Ytbfffjnfbahiiaa
