/- Marks that are put into a list of bytes are held by it; a copy of one. -/
import Derived.Test.YtmjcifaihmecmaaByteRows
namespace Go.Proofs.Ytmjcifaihmecmaa
open Go.RowKit

theorem eqByteS_any {v v' : Value} {bs : List Int} (w : World) (hm : bs.length ≤ 1048576) (h : ByteSlice w v bs) (h' : ByteSlice w v' bs) :
    Calls Try.prog 13 #[v, v'] w fun e w' => e = .returned (.bool true) ∧ Below w.heap.size w w' := by
  obtain ⟨ad, cap, rfl, h⟩ := h
  obtain ⟨ad', cap', rfl, h'⟩ := h'
  by_cases h0 : bs = []
  · subst h0
    exact eqByteS_none ad ad' cap cap' w
  · obtain ⟨g, o, rfl, hb, hr⟩ := h.resolve_left h0
    obtain ⟨g', o', rfl, hb', hr'⟩ := h'.resolve_left h0
    exact eqByteS_rows g o g' o' _ cap cap' bs w hr hr' hm

theorem row_more {k : Nat} {f f' F : Nat → Value} (hf : ∀ i, i < k → f i = F i) (ho : ∀ i, i < k → f' i = f i) (h0 : f' k = F k) : ∀ i, i < k + 1 → f' i = F i := by
  intro i hi
  by_cases h : i < k
  · rw [ho i h, hf i h]
  · rw [show i = k by omega]
    exact h0

set_option maxHeartbeats 1000000 in
set_option maxRecDepth 100000 in
theorem markByteS_rows (g n cap : Nat) (F : Nat → Value) (w : World) (hm : n ≤ 1048576) (hr : CellRow 5 w g n F) :
    Calls Try.prog 16 #[.slice (some ⟨g, 0, none⟩) n cap, .int .i64 1] w fun e w' => e = .returned (.int .i64 (1 + (n : Int))) ∧ CellRow 5 w' g n byteMarks ∧ w.grownBy w' (some g) := by
  obtain ⟨N, f, hf, hN, _⟩ := hr
  have HM : Hid (n ≤ 1048576) := hm
  clear hm
  go_enter Try.func16, Try.ntmps16
  go_wp2_with fail
  go_loopw [1, 5] (fun m i wr => ∃ (k : Nat) (x : Int) (f : Nat → Value), k ≤ n ∧ i = .int .i64 k ∧ m = .int .i64 x ∧ Hid (x = 1 + (k : Int)) ∧ Rw wr g 5 N f n ∧ Hid (∀ j, j < k → f j = byteMarks j) ∧ w.grownBy wr (some g)) (fun _ i _ => n - (intOf i).toNat)
  case atStart => exact ⟨0, 1, f, Nat.zero_le _, rfl, rfl, rfl, hf, fun j hj => by omega, kept_refl _ _⟩
  case round =>
    obtain ⟨k, x, f, hk, rfl, rfl, Hx, hrow, HF, hgr⟩ := hrel
    clear hf
    by_cases hkl : (k : Int) < (n : Int)
    · have q0 := hrow.cell (i := k) (by omega)
      have z0 := hrow.frozen k (by omega)
      have HW : Hid _ := wrap_inc2 Hx.out (by omega) HM.out
      have HB : Hid (byteMarks k = .int .u8 (x % 256)) := by show _ = _; rw [Hx.out]; rfl
      go_wp2_with fail
      rw [HW.out, wrap_inc (n := n) (by omega) HM.out]
      have hs : n - (intOf (.int .i64 ((k + 1 : Nat) : Int))).toNat < n - (intOf (.int .i64 (k : Int))).toNat := by simp only [intOf, Int.toNat_natCast]; omega
      have hx := Hx.out
      refine ⟨⟨k + 1, x + 1, _, by omega, rfl, rfl, by show _ = _; omega, hrow.set k _, row_more HF.out (fun i hi => by rw [if_neg (by omega)]) ?_, kept_set hgr _ _⟩, hs⟩
      rw [if_pos rfl, HB.out]
    · have hkn : k = n := by omega
      subst hkn
      have HX : Hid (x = 1 + (k : Int)) := Hx
      clear Hx
      go_wp2_with fail
      go_ret
      exact ⟨by rw [← HX.out]; rfl, ⟨N, f, hrow, hN, HF.out⟩, hgr⟩

set_option maxHeartbeats 1000000 in
set_option maxRecDepth 100000 in
theorem heldByteS_rows (g n cap : Nat) (w : World) (hm : n ≤ 1048576) (hr : CellRow 5 w g n byteMarks) :
    Calls Try.prog 17 #[.slice (some ⟨g, 0, none⟩) n cap, .int .i64 1] w fun e w' => e = .returned (.int .i64 (1 + (n : Int))) ∧ w = w' := by
  have HM : Hid (n ≤ 1048576) := hm
  have HR : Hid (CellRow 5 w g n byteMarks) := hr
  clear hm hr
  go_enter Try.func17, Try.ntmps17
  go_wp2_with fail
  go_loop [1, 5] (fun m i => ∃ (k : Nat) (x : Int), k ≤ n ∧ i = .int .i64 k ∧ m = .int .i64 x ∧ Hid (x = 1 + (k : Int))) (fun _ i => n - (intOf i).toNat)
  case atStart => exact ⟨0, 1, Nat.zero_le _, rfl, rfl, rfl⟩
  case round =>
    obtain ⟨k, x, hk, rfl, rfl, Hx⟩ := hrel
    by_cases hkl : (k : Int) < (n : Int)
    · have q0 := HR.out.cell (i := k) (by omega)
      have HW : Hid _ := wrap_inc2 Hx.out (by omega) HM.out
      rw [show byteMarks k = .int .u8 (x % 256) by rw [Hx.out]; rfl] at q0
      go_wp2_with fail
      rw [HW.out, wrap_inc (n := n) (by omega) HM.out]
      have hs : n - (intOf (.int .i64 ((k + 1 : Nat) : Int))).toNat < n - (intOf (.int .i64 (k : Int))).toNat := by simp only [intOf, Int.toNat_natCast]; omega
      have hx := Hx.out
      exact ⟨⟨k + 1, x + 1, by omega, rfl, rfl, by show _ = _; omega⟩, hs⟩
    · have hkn : k = n := by omega
      subst hkn
      have HX : Hid (x = 1 + (k : Int)) := Hx
      clear Hx
      go_wp2_with fail
      go_ret
      exact ⟨by rw [← HX.out]; rfl, rfl⟩

set_option maxRecDepth 100000 in
theorem markByteS_none (ad : Option Addr) (cap : Nat) (w : World) :
    Calls Try.prog 16 #[.slice ad 0 cap, .int .i64 1] w fun e w' => e = .returned (.int .i64 1) ∧ w = w' := by
  go_enter Try.func16, Try.ntmps16
  go_wp2
  refine wp_loop_rounds 1 ?_
  rw [rounds_succ]
  go_wp2
  go_ret
  exact ⟨rfl, rfl⟩

set_option maxRecDepth 100000 in
theorem heldByteS_none (ad : Option Addr) (cap : Nat) (w : World) :
    Calls Try.prog 17 #[.slice ad 0 cap, .int .i64 1] w fun e w' => e = .returned (.int .i64 1) ∧ w = w' := by
  go_enter Try.func17, Try.ntmps17
  go_wp2
  refine wp_loop_rounds 1 ?_
  rw [rounds_succ]
  go_wp2
  go_ret
  exact ⟨rfl, rfl⟩

theorem markByteS_any {B n : Nat} {v : Value} {F : Nat → Value} (w : World) (hm : n ≤ 1048576) (h : SliceR 5 1 B w v n F) :
    Calls Try.prog 16 #[v, .int .i64 1] w fun e w' => e = .returned (.int .i64 (1 + (n : Int))) ∧ SliceR 5 1 B w' v n byteMarks ∧ Turned w w' v n := by
  obtain ⟨ad, cap, rfl, h⟩ := h
  by_cases h0 : n = 0
  · subst h0
    refine (markByteS_none ad cap w).mono ?_
    rintro e w' ⟨rfl, rfl⟩
    exact ⟨rfl, ⟨ad, cap, rfl, Or.inl rfl⟩, none, kept_refl _ _, Or.inl rfl⟩
  · obtain ⟨g, rfl, hB, hr⟩ := h.resolve_left h0
    rw [Nat.mul_one] at hr
    refine (markByteS_rows g n cap F w hm hr).mono ?_
    rintro e w' ⟨rfl, hr', hg⟩
    exact ⟨rfl, ⟨_, cap, rfl, Or.inr ⟨g, rfl, hB, by rw [Nat.mul_one]; exact hr'⟩⟩, some g, hg, Or.inr ⟨h0, rfl⟩⟩

theorem heldByteS_any {B n : Nat} {v : Value} (w : World) (hm : n ≤ 1048576) (h : SliceR 5 1 B w v n byteMarks) :
    Calls Try.prog 17 #[v, .int .i64 1] w fun e w' => e = .returned (.int .i64 (1 + (n : Int))) ∧ w = w' := by
  obtain ⟨ad, cap, rfl, h⟩ := h
  by_cases h0 : n = 0
  · subst h0
    exact heldByteS_none ad cap w
  · obtain ⟨g, rfl, hB, hr⟩ := h.resolve_left h0
    rw [Nat.mul_one] at hr
    exact heldByteS_rows g n cap w hm hr
end Go.Proofs.Ytmjcifaihmecmaa
