/- A text many times: that it ends, with a text that is not too long. -/
import Derived.Test.YtnhofdngmbnlkaaRows
import Derived.WalkKit
import Derived.ProofKit
import Derived.Laws.Bits64
import Derived.Test.YtnhofdngmbnlkaaOwnRow
import Derived.Deep.CutRange
import Derived.Deep.CutBlock
import Derived.IntWalk
namespace Go.Proofs.Ytnhofdngmbnlkaa
open Go.RowKit

theorem mul_half (v s : Nat) : v / 2 * (s + s) + v % 2 * s = v * s := by
  have h : v = v / 2 * 2 + v % 2 := by omega
  calc v / 2 * (s + s) + v % 2 * s = (v / 2 * 2 + v % 2) * s := by rw [Nat.add_mul, Nat.mul_assoc, Nat.two_mul]
    _ = v * s := by rw [← h]

def ManyP (W : World) (e : Ending) (W' : World) : Prop := ∃ t : ByteArray, e = .returned (.string t) ∧ t.size ≤ 20000 ∧ Below W.heap.size W W'

set_option maxHeartbeats 4000000 in
set_option maxRecDepth 100000 in
theorem many_calls (S : ByteArray) (n : Nat) (hS : S.size ≤ 10) (hn : n ≤ 2000) (W : World) : Calls Try.prog 14 #[.string S, .int .i64 (n : Int)] W (ManyP W) := by
  have H0 : Hid ((⟨#[]⟩ : ByteArray).size + n * S.size ≤ 20000) := by
    show 0 + n * S.size ≤ 20000
    have := Nat.mul_le_mul hn hS
    omega
  have HN := hid hn
  clear hn hS
  go_enter Try.func14, Try.ntmps14
  go_wp2_with fail
  go_loopw [0, 1, 5] (fun s m o wr => ∃ (S' O : ByteArray) (v : Nat), s = .string S' ∧ m = .int .i64 (v : Int) ∧ o = .string O ∧ Hid (O.size + v * S'.size ≤ 20000) ∧ Hid (v ≤ 2000) ∧ Hid (Below W.heap.size W wr)) (fun _ m _ _ => (intOf m).toNat)
  case atStart => exact ⟨S, _, n, rfl, rfl, rfl, H0, HN, Below.refl _ _⟩
  case round =>
    obtain ⟨S', O, v, rfl, rfl, rfl, HO, HV, HB⟩ := hrel
    clear H0 HN
    by_cases hv0 : v = 0
    · subst hv0
      have hz : ¬ ((0 : Int) < ((0 : Nat) : Int)) := by omega
      have HF := hid (show O.size ≤ 20000 by have := HO.out; omega)
      clear HO HV
      go_wp2_with fail
      go_ret
      exact ⟨O, rfl, HF.out, HB.out⟩
    · have hp : (0 : Int) < (v : Int) := by omega
      have HM := hid (mul_half v S'.size)
      have HS1 : Hid (S'.size ≤ v * S'.size) := Nat.le_mul_of_pos_left _ (by omega)
      have hcat : ¬ 9223372036854775807 < S'.size + S'.size := by have := HO.out; have := HS1.out; omega
      have hcat2 : ¬ 9223372036854775807 < O.size + S'.size := by have := HO.out; have := HS1.out; omega
      have hd : Hid (wrap64 ((v : Int) / 2) = ((v / 2 : Nat) : Int)) := by show _ = _; unfold wrap64; have := HV.out; omega
      have hlt : Hid ((intOf (.int .i64 ((v / 2 : Nat) : Int))).toNat < (intOf (.int .i64 (v : Int))).toNat) := by show ((v / 2 : Nat) : Int).toNat < (v : Int).toNat; omega
      clear hv0
      by_cases hb : ((v : Int) % 2 == 1) = true
      · have h1 : v % 2 = 1 := by have := eq_of_beq hb; omega
        have HE : Hid ((O ++ S').size + v / 2 * (S' ++ S').size ≤ 20000) := by
          show _ ≤ _
          rw [ByteArray.size_append, ByteArray.size_append]
          have e := HM.out
          rw [h1] at e
          have := HO.out
          omega
        have HV2 : Hid (v / 2 ≤ 2000) := by show _ ≤ _; have := HV.out; omega
        clear h1 HM HS1 HO HV
        go_wp2_with fail
        rw [hd.out]
        exact ⟨⟨S' ++ S', O ++ S', v / 2, rfl, rfl, rfl, HE, HV2, HB⟩, hlt.out⟩
      · have HE : Hid (O.size + v / 2 * (S' ++ S').size ≤ 20000) := by
          show _ ≤ _
          rw [ByteArray.size_append]
          have e := HM.out
          have := HO.out
          omega
        have HV2 : Hid (v / 2 ≤ 2000) := by show _ ≤ _; have := HV.out; omega
        have hb' : ((v : Int) % 2 == 1) = false := by simpa using hb
        clear hb HM HS1 HO HV
        go_wp2_with fail
        rw [hd.out]
        exact ⟨⟨S' ++ S', O, v / 2, rfl, rfl, rfl, HE, HV2, HB⟩, hlt.out⟩
end Go.Proofs.Ytnhofdngmbnlkaa
