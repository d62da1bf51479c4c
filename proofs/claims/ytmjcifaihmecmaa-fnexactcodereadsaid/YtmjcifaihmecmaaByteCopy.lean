/- A copy of bytes, as the law makes one. -/
import Derived.Test.YtmjcifaihmecmaaByteRows
import Derived.Test.YtmjcifaihmecmaaByteMarks
import Derived.Test.YtmjcifaihmecmaaCodePure
namespace Go.Proofs.Ytmjcifaihmecmaa
open Go.RowKit

theorem made_bytes (len : Nat) (hl : len ≤ 1048576) (w : World) : ∃ c : Array Value, c.size = len ∧
    (Instr.makeSlice 30 (.int .i64 (len : Int)) (.int .i64 (len : Int))).run Try.prog w = .ok (.slice (some ⟨w.heap.size, 0, none⟩) len len) (w.alloc (.cells c 5)) := by
  obtain ⟨i0, hi, hz0, hz1, hz2⟩ := info_parts info_byte
  have h := run_make (P := Try.prog) w 30 5 i0 _ Try.underlying30 hi hz0 .i64 .i64 len len (by omega) (Int.le_refl _) (by rw [hz2]; omega) (by omega)
  rw [hz1] at h
  simp only [Int.toNat_natCast] at h
  exact ⟨_, by rw [size_madeCells]; omega, h⟩

set_option maxRecDepth 100000 in
theorem toByteS_none (a : Option Addr) (cap : Nat) (w : World) :
    Calls Try.prog 19 #[.slice a 0 cap] w fun e w' => e = .returned (.slice (some ⟨w.heap.size, 0, none⟩) 0 0) ∧ Below w.heap.size w w' ∧ w.heap.size < w'.heap.size := by
  obtain ⟨c, hcs, hmk⟩ := made_bytes 0 (by omega) w
  simp only [Int.cast_ofNat_Int] at hmk
  go_enter Try.func19, Try.ntmps19
  go_wp2
  refine wp_loop_rounds 1 ?_
  rw [rounds_succ]
  go_wp2
  go_ret
  exact ⟨rfl, (Below.refl _ _).alloc (Nat.le_refl _) _, by simp⟩

set_option maxHeartbeats 1000000 in
set_option maxRecDepth 100000 in
theorem toByteS_rows (b off cap : Nat) (bs : List Int) (w : World) (hb : b < w.heap.size) (hn : ∀ k, k < bs.length → w.cell? ⟨b, off + k, none⟩ = some (.int .u8 (bs.getD k 0))) (hm : bs.length ≤ 1048576) :
    Calls Try.prog 19 #[.slice (some ⟨b, off, none⟩) bs.length cap] w fun e w' => e = .returned (.slice (some ⟨w.heap.size, 0, none⟩) bs.length bs.length) ∧ CellRow 5 w' w.heap.size bs.length (byteCells bs) ∧ Below w.heap.size w w' := by
  obtain ⟨len, hlen⟩ : ∃ len, bs.length = len := ⟨_, rfl⟩
  have HM : Hid (len ≤ 1048576) := by show _ ≤ _; omega
  have HN : Hid (∀ k, k < len → w.cell? ⟨b, off + k, none⟩ = some (.int .u8 (bs.getD k 0))) := by rw [← hlen]; exact hn
  rw [hlen]
  clear hlen hm hn
  obtain ⟨c, hcs, hmk⟩ := made_bytes len HM.out w
  have hrow := World.rowIs_alloc w c 5 (fun i => c.getD i undef) (fun i hi => by simp [hi])
  rw [hcs] at hrow
  go_enter Try.func19, Try.ntmps19
  go_wp2_with fail
  clear hmk
  go_loopw [4] (fun i wr => ∃ (k : Nat) (f : Nat → Value), k ≤ len ∧ i = .int .i64 k ∧ Rw wr w.heap.size 5 len f len ∧ Hid (∀ j, j < k → f j = byteCells bs j) ∧ Below w.heap.size w wr) (fun i _ => len - (intOf i).toNat)
  case atStart => exact ⟨0, _, Nat.zero_le _, rfl, rw_of_row hrow _, fun j hj => by omega, (Below.refl _ _).alloc (Nat.le_refl _) _⟩
  case round =>
    obtain ⟨k, f, hk, rfl, hown, HF, hnx⟩ := hrel
    clear hrow
    by_cases hkl : (k : Int) < (len : Int)
    · have c0 := (hnx.cell (p := ⟨b, off + k, none⟩) hb).trans (HN.out k (by omega))
      have HE : Hid (byteCells bs k = .int .u8 (bs.getD k 0)) := rfl
      generalize bs.getD k 0 = n at c0 HE
      have q0 := hown.cell (i := k) (by omega)
      have z0 := hown.frozen k (by omega)
      go_wp2_with fail
      have hs : len - (intOf (.int .i64 ((k + 1 : Nat) : Int))).toNat < len - (intOf (.int .i64 (k : Int))).toNat := by simp only [intOf, Int.toNat_natCast]; omega
      try rw [wrap_inc (n := len) (by omega) HM.out]
      refine ⟨⟨k + 1, _, by omega, rfl, hown.set k _, row_more HF.out (fun i hi => by rw [if_neg (by omega)]) ?_, hnx.setCell (by simp) _⟩, hs⟩
      rw [if_pos rfl, HE.out]
    · have hkn : k = len := by omega
      subst hkn
      go_wp2_with fail
      go_ret
      exact ⟨rfl, ⟨_, f, hown, Nat.le_refl _, HF.out⟩, hnx⟩

theorem toByteS_any {v : Value} {bs : List Int} (w : World) (hv : ByteSlice w v bs) (hm : bs.length ≤ 1048576) :
    Calls Try.prog 19 #[v] w fun e w' => (e = .returned (.slice (some ⟨w.heap.size, 0, none⟩) bs.length bs.length) ∧ SliceR 5 1 w.heap.size w' (.slice (some ⟨w.heap.size, 0, none⟩) bs.length bs.length) bs.length (byteCells bs) ∧ w.heap.size < w'.heap.size) ∧ Below w.heap.size w w' := by
  obtain ⟨a, cap, rfl, h⟩ := hv
  by_cases he : bs = []
  · subst he
    refine (toByteS_none a cap w).mono ?_
    rintro e w' ⟨rfl, h2, h3⟩
    exact ⟨⟨rfl, ⟨_, _, rfl, Or.inl rfl⟩, h3⟩, h2⟩
  · obtain ⟨b, off, rfl, hb, hn⟩ := h.resolve_left he
    refine (toByteS_rows b off cap bs w hb hn hm).mono ?_
    rintro e w' ⟨rfl, h1, h2⟩
    exact ⟨⟨rfl, ⟨_, _, rfl, Or.inr ⟨_, rfl, Nat.le_refl _, by simpa using h1⟩⟩, h1.lt⟩, h2⟩
end Go.Proofs.Ytmjcifaihmecmaa
