/- The specification's decimals of a number that is not negative. -/
import Derived.Test.YtlhdicichdihfaaGreatDoorOwnRow
import Derived.Laws.IdiomStrings
import Derived.Lib.ItoaLen
namespace Go.Proofs.YtlhdicichdihfaaGreatDoor
open Go.RowKit

theorem dec_append (a b : List UInt8) : (⟨a.toArray⟩ : ByteArray) ++ ⟨b.toArray⟩ = ⟨(a ++ b).toArray⟩ := by
  apply ByteArray.ext
  simp

theorem dec_size (a : List UInt8) : (⟨a.toArray⟩ : ByteArray).size = a.length := by
  simp [ByteArray.size]

def tx (l : List UInt8) : ByteArray := ⟨l.toArray⟩
theorem tx_size (l : List UInt8) : (tx l).size = l.length := dec_size l
theorem tx_append (a b : List UInt8) : tx a ++ tx b = tx (a ++ b) := dec_append a b

/-- Numbers of 64 bits. -/
def Long (n : Int) : Prop := -9223372036854775808 ≤ n ∧ n ≤ 9223372036854775807

/-- The digits of a number, put ahead one by one. -/
def decGo : Nat → Nat → List UInt8 → List UInt8
  | 0, _, out => out
  | f + 1, u, out => if u = 0 then out else decGo f (u / 10) (UInt8.ofNat (48 + u % 10) :: out)

theorem decGo_eq : ∀ (f u : Nat) (out : List UInt8), 0 < u → u < 10 ^ f → decGo f u out = Lib.decDigits u ++ out
  | 0, u, out, h0, h1 => by simp at h1; omega
  | f + 1, u, out, h0, h1 => by
    rw [decGo, if_neg (by omega)]
    by_cases h : u < 10
    · rw [Lib.decDigits_one h, show u / 10 = 0 by omega, show u % 10 = u by omega]
      cases f with
      | zero => rfl
      | succ f => rw [decGo, if_pos rfl]; rfl
    · rw [decGo_eq f (u / 10) _ (by omega) (by rw [Nat.pow_succ] at h1; omega)]
      conv => rhs; rw [Lib.decDigits, dif_neg h]
      simp

theorem itoa_zero : Lib.itoa 0 = [48] := by
  unfold Lib.itoa
  rw [if_neg (by omega)]
  exact Lib.decDigits_one (by decide)

def digB (u : Nat) : ByteArray := ⟨#[UInt8.ofNat (48 + u % 10)]⟩

theorem digB_run (j : Nat) (w : World) : (convert 71 9 (.slice (some ⟨w.heap.size, 0, none⟩) 1 1)).run Tryz.prog (w.alloc (.cells #[.int .u8 (48 + (j : Int) % 10)] 5)) = .ok (.string (digB j)) (w.alloc (.cells #[.int .u8 (48 + (j : Int) % 10)] 5)) := by
  have h := run_convert_bytes_back (P := Tryz.prog) (w.alloc (.cells #[.int .u8 (48 + (j : Int) % 10)] 5)) 71 9 5 ⟨w.heap.size, 0, none⟩ 1 [UInt8.ofNat (48 + j % 10)] Tryz.underlying71 Tryz.underlying5 Tryz.underlying9 (fun i hi => by
    have h0 : i = 0 := by simpa using hi
    subst h0
    simp [Addr.add]
    omega)
  exact h

theorem digB_append (j : Nat) (l : List UInt8) : digB j ++ ⟨l.toArray⟩ = ⟨(UInt8.ofNat (48 + j % 10) :: l).toArray⟩ := dec_append [UInt8.ofNat (48 + j % 10)] l

set_option maxHeartbeats 1000000 in
set_option maxRecDepth 100000 in
theorem l2Dec_pos (u : Nat) (w : World) (hu : 0 < u) (hn : u ≤ 9223372036854775808) :
    Calls Tryz.prog 52 #[.int .i64 (u : Int)] w fun e w' => e = .returned (.string ⟨(Lib.decDigits u).toArray⟩) ∧ Below w.heap.size w w' := by
  obtain ⟨R, hR⟩ : ∃ R, Lib.decDigits u = R := ⟨_, rfl⟩
  have HR : Hid (decGo 19 u [] = R) := by
    show _ = _
    rw [decGo_eq 19 u [] hu (by omega), hR]
    simp
  rw [hR]
  have HN : Hid (u < 10 ^ 19) := by show _ < _; omega
  clear hR hn
  have hb0 : ((u : Int) == 0) = false := by simp; omega
  have hneg : ¬ (u : Int) < 0 := by omega
  go_enter Tryz.func52, Tryz.ntmps52
  go_wp2_with fail
  go_loopw [0, 3] (fun a o wr => ∃ (v f : Nat) (l : List UInt8), a = .int .i64 (v : Int) ∧ o = .string ⟨l.toArray⟩ ∧ Hid (v < 10 ^ f) ∧ Hid (l.length + f ≤ 19) ∧ Hid (decGo f v l = R) ∧ Below w.heap.size w wr) (fun a _ _ => (intOf a).toNat)
  case atStart => exact ⟨u, 19, [], rfl, rfl, HN, by simp [Hid], HR, Below.refl _ _⟩
  case round =>
    obtain ⟨v, f, l, rfl, rfl, HVF, HF, HE, hnx⟩ := hrel
    clear HR hb0 hneg
    by_cases hv0 : v = 0
    · subst hv0
      have hE : l = R := by
        have := HE.out
        cases f with
        | zero => exact this
        | succ f => simpa [decGo] using this
      subst hE
      clear HE
      go_wp2_with fail
      go_ret
      exact ⟨rfl, hnx⟩
    · obtain ⟨f, rfl⟩ : ∃ f', f = f' + 1 := ⟨f - 1, by have h := HVF.out; cases f with | zero => simp at h; omega | succ f => simp⟩
      have HV2 : Hid (v / 10 < 10 ^ f ∧ v < 10000000000000000000) := by
        have h := HVF.out
        have h2 := HF.out
        refine ⟨by rw [Nat.pow_succ] at h; omega, ?_⟩
        exact Nat.lt_of_lt_of_le h (Nat.pow_le_pow_right (n := 10) (j := 19) (by decide) (by omega))
      have hE := HE.out
      rw [decGo, if_neg hv0] at hE
      have HE' : Hid (decGo f (v / 10) (UInt8.ofNat (48 + v % 10) :: l) = R) := hE
      have hb0 : ((v : Int) == 0) = false := by simp; omega
      have hd : ¬ ((v : Int) % 10 < 0) := by omega
      have hcv := digB_run v wr
      have HA : Hid (digB v ++ ⟨l.toArray⟩ = ⟨(UInt8.ofNat (48 + v % 10) :: l).toArray⟩) := digB_append v l
      have hdz : (digB v).size = 1 := rfl
      have hcat : ¬ 9223372036854775807 < 1 + l.length := by have := HF.out; omega
      clear HE hE
      generalize digB v = dj at *
      go_wp2_with fail
      have ew : wrap64 ((v : Int) / 10) = ((v / 10 : Nat) : Int) := by have := HV2.out; unfold wrap64; omega
      rw [HA.out, ew]
      refine ⟨⟨v / 10, f, _, rfl, rfl, HV2.out.1, ?_, HE', hnx.alloc hnx.size _⟩, by simp only [intOf, Int.toNat_natCast]; omega⟩
      show (_ :: l).length + f ≤ _
      have := HF.out
      simp only [List.length_cons]
      omega

set_option maxRecDepth 100000 in
theorem l2Dec_zero (w : World) : Calls Tryz.prog 52 #[.int .i64 0] w fun e w' => e = .returned (.string ⟨#[48]⟩) ∧ w = w' := by
  go_enter Tryz.func52, Tryz.ntmps52
  go_wp2_with fail
  go_ret
  exact ⟨rfl, rfl⟩
end Go.Proofs.YtlhdicichdihfaaGreatDoor
