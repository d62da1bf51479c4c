/- The draw of a kind and two numbers returns, whatever the bytes are. -/
import Derived.Test.YthlbbmnebnafjaaRows
import Derived.Test.YthlbbmnebnafjaaPickWalks
import Derived.WalkKit
import Derived.ProofKit
import Derived.OwnWalk
import Derived.Deep.RegionHeld
namespace Go.Proofs.Ythlbbmnebnafjaa
open Go.RowKit

/-- A slice of bytes in a world. -/
def BytesAt (w : World) (a0 : Option Addr) (len : Nat) : Prop :=
  0 < len → ∃ b off, a0 = some ⟨b, off, none⟩ ∧ b < w.heap.size ∧ ∀ i, i < len → ∃ z, w.cell? ⟨b, off + i, none⟩ = some (.int .u8 z) ∧ 0 ≤ z ∧ z ≤ 255

set_option maxRecDepth 100000 in
theorem open_calls (a0 : Option Addr) (len cap : Nat) (w : World) (hlen : len ≤ 1000000000) (hb : len ≤ cap) :
    Calls Try.prog 8 #[.slice a0 len cap] w fun e w' => e = .returned (.pointer (some ⟨w.heap.size, 0, none⟩)) ∧
      ∃ n : Nat, n ≤ len ∧ w' = w.alloc (.cells #[.slice a0 n cap, .int .i64 0] 34) := by
  by_cases h : (2000 : Int) < (len : Int)
  · go_enter Try.func8, Try.ntmps8
    go_wp2
    go_ret
    exact ⟨rfl, 2000, by omega, rfl⟩
  · go_enter Try.func8, Try.ntmps8
    go_wp2
    go_ret
    exact ⟨rfl, len, Nat.le_refl _, rfl⟩

/-- The reader of bytes in block 'B', 'q' numbers drawn, the table of numbers in the block behind it. -/
structure DrawSt (w0 : World) (a0 : Option Addr) (n cap : Nat) (vals : Nat → Int) (q : Nat) (w' : World) : Prop where
  cell0 : w'.cell? ⟨w0.heap.size, 0, none⟩ = some (.slice a0 n cap)
  cell1 : w'.cell? ⟨w0.heap.size, 1, none⟩ = some (.int .i64 q)
  frozen : w'.frozen? ⟨w0.heap.size, 1, none⟩ = false
  bytes : 0 < n → ∃ b off, a0 = some ⟨b, off, none⟩ ∧ b ≠ w0.heap.size ∧ ∀ i, i < n → ∃ z, w'.cell? ⟨b, off + i, none⟩ = some (.int .u8 z) ∧ 0 ≤ z ∧ z ≤ 255
  row : ∀ i : Nat, i < 8 → w'.cell? ⟨w0.heap.size + 1, i, none⟩ = some (.int .i64 (vals i))
  below : Below w0.heap.size w0 w'

theorem DrawSt.drew {w0 : World} {a0 : Option Addr} {n cap : Nat} {vals : Nat → Int} {q : Nat} {w' : World} (h : DrawSt w0 a0 n cap vals q w') : DrawSt w0 a0 n cap vals q w'.drew :=
  ⟨h.cell0, h.cell1, h.frozen, h.bytes, h.row, h.below.drew⟩

theorem pick_st {w0 : World} {a0 : Option Addr} {n cap : Nat} {vals : Nat → Int} {q : Nat} {w' : World} (h : DrawSt w0 a0 n cap vals q w') (hq : q ≤ 1000) (k : Nat) (hk : 0 < k) :
    Calls Try.prog 9 #[.pointer (some ⟨w0.heap.size, 0, none⟩), .int .i64 k] w' fun e w2 => ∃ m : Nat, e = .returned (.int .i64 m) ∧ m < k ∧ DrawSt w0 a0 n cap vals (q + 1) w2 := by
  refine (pick_calls w0.heap.size a0 n cap q k w' h.cell0 h.cell1 h.frozen (by omega) h.bytes).mono ?_
  rintro e w2 ⟨⟨r, rfl, hr0, hr1⟩, hP⟩
  have hr1 := hr1 (by omega)
  refine ⟨r.toNat, by rw [Int.toNat_of_nonneg hr0], by omega, ?_⟩
  refine ⟨hP.cell0.trans h.cell0, by rw [hP.cell1]; push_cast; rfl, hP.frozen.trans h.frozen, ?_, ?_, h.below.trans (hP.below _ (Nat.le_refl _))⟩
  · intro hn
    obtain ⟨b, off, ea, hb, hz⟩ := h.bytes hn
    refine ⟨b, off, ea, hb, fun i hi => ?_⟩
    rw [hP.other _ hb]
    exact hz i hi
  · intro i hi
    rw [hP.other _ (by simp)]
    exact h.row i hi

def vals8 (i : Nat) : Int := ([0, 1, -1, 2147483647, -2147483648, 65536, 4294967296, -5] : List Int).getD i 0

theorem below_two (w : World) (o1 o2 : Obj) : Below w.heap.size w ((w.alloc o1).alloc o2) := ((Below.refl _ _).alloc (Nat.le_refl _) o1).alloc (by simp) o2

theorem draw_start (w : World) (a0 : Option Addr) (len cap n : Nat) (hn : n ≤ len) (hB : BytesAt w a0 len) :
    DrawSt w a0 n cap vals8 0 ((w.alloc (.cells #[.slice a0 n cap, .int .i64 0] 34)).alloc (.cells #[.int .i64 0, .int .i64 1, .int .i64 (-1), .int .i64 2147483647, .int .i64 (-2147483648), .int .i64 65536, .int .i64 4294967296, .int .i64 (-5)] 3)) where
  cell0 := by simp [go_sem]
  cell1 := by simp [go_sem]
  frozen := by simp [go_sem]
  bytes := by
    intro h
    obtain ⟨b, off, ea, hb, hz⟩ := hB (by omega)
    refine ⟨b, off, ea, by omega, fun i hi => ?_⟩
    obtain ⟨z, hz, h0, h1⟩ := hz i (by omega)
    refine ⟨z, ?_, h0, h1⟩
    rw [← hz]
    exact ((below_two w _ _).cell (p := ⟨b, off + i, none⟩) hb)
  row := by
    intro i hi
    match i, hi with
    | 0, _ => simp [go_sem, vals8]
    | 1, _ => simp [go_sem, vals8]
    | 2, _ => simp [go_sem, vals8]
    | 3, _ => simp [go_sem, vals8]
    | 4, _ => simp [go_sem, vals8]
    | 5, _ => simp [go_sem, vals8]
    | 6, _ => simp [go_sem, vals8]
    | 7, _ => simp [go_sem, vals8]
  below := below_two w _ _

set_option maxHeartbeats 4000000 in
set_option maxRecDepth 100000 in
theorem draw_calls (a0 : Option Addr) (len cap : Nat) (w : World) (hlen : len ≤ 1000000000) (hb : len ≤ cap) (hB : BytesAt w a0 len) :
    Calls Try.prog 5 #[.slice a0 len cap] w fun e w' => (∃ x y z, e = .returned (.tuple #[.int .i64 x, .int .i64 y, .int .i64 z])) ∧ Below w.heap.size w w' := by
  go_enter Try.func5, Try.ntmps5
  go_wp2_with fail
  refine (open_calls a0 len cap w hlen hb).mono ?_
  rintro e w1 ⟨rfl, n, hn, rfl⟩
  go_wp2_with fail
  have hS := draw_start w a0 len cap n hn hB
  revert hS
  generalize ((w.alloc (.cells #[.slice a0 n cap, .int .i64 0] 34)).alloc (.cells #[.int .i64 0, .int .i64 1, .int .i64 (-1), .int .i64 2147483647, .int .i64 (-2147483648), .int .i64 65536, .int .i64 4294967296, .int .i64 (-5)] 3)) = W
  intro hS
  have hS := hS.drew
  clear hB
  go_region_with (go_at_call 9; refine (pick_st (by assumption) (by omega) _ (by decide)).mono ?_; rintro e w2 ⟨m, rfl, hm, hS2⟩; have hrow := hS2.row)
  all_goals
    have hB2 := hS2.below
    clear hrow hS2
    go_wp2
    exact bodyPost_ret (results_tmp3 (fn := Try.f5) rfl _ _ _) rfl ⟨⟨_, _, _, rfl⟩, hB2⟩
end Go.Proofs.Ythlbbmnebnafjaa
