/- Whether an operation is among those of a list: the specification's place of it, the program's test. -/
import Derived.Test.YtnhofdngmbnlkaaEffWalks
import Derived.BigQuiet
namespace Go.Proofs.Ytnhofdngmbnlkaa
open Go.RowKit Go.Deep

def effIn (es : List Ef) (s : ByteArray) : Bool := es.any (fun e => e.name.toList == s.toList)

def effPlace : List Ef → ByteArray → Nat → Int
  | [], _, _ => -1
  | e :: r, s, i => if (e.name.toList == s.toList) = true then i else effPlace r s (i + 1)

theorem effPlace_lt : ∀ (es : List Ef) (s : ByteArray) (i : Nat), effPlace es s i < 0 ↔ effIn es s = false
  | [], s, i => by simp [effPlace, effIn]
  | e :: r, s, i => by
    have ih := effPlace_lt r s (i + 1)
    unfold effPlace
    simp only [effIn, List.any_cons] at *
    split
    · rename_i h
      rw [h]
      simp
    · rename_i h
      have h' : (e.name.toList == s.toList) = false := by simpa using h
      rw [h', Bool.false_or]
      exact ih

theorem effs_drop {es : List Ef} {i : Nat} (hi : i < es.length) : es.drop i = es.getD i default :: es.drop (i + 1) := by
  rw [List.drop_eq_getElem_cons hi]
  simp [List.getD, List.getElem?_eq_getElem hi]

set_option maxHeartbeats 1000000 in
set_option maxRecDepth 100000 in
theorem l2Eff_calls (a0 : Option Addr) (cap : Nat) (es : List Ef) (s : ByteArray) (w : World) (hm : es.length ≤ 1000000) (hn : es ≠ [] → ∃ b off, a0 = some ⟨b, off, none⟩ ∧ EffsAt w b off es) :
    Calls Try.prog 42 #[.slice a0 es.length cap, .string s] w fun e w' => e = .returned (.int .i64 (effPlace es s 0)) ∧ w = w' := by
  obtain ⟨len, hlen⟩ : ∃ len, es.length = len := ⟨_, rfl⟩
  have Hlen : Hid (es.length = len) := hlen
  have HM : Hid (len ≤ 1000000) := by show _ ≤ _; omega
  obtain ⟨R, hR⟩ : ∃ R, effPlace es s 0 = R := ⟨_, rfl⟩
  have HR : Hid (effPlace es s 0 = R) := hR
  have HN : Hid (es ≠ [] → ∃ b off, a0 = some ⟨b, off, none⟩ ∧ EffsAt w b off es) := hn
  rw [hlen, hR]
  clear hlen hR hm hn
  go_enter Try.func42, Try.ntmps42
  go_wp2_with fail
  go_loop [5] (fun i => ∃ k : Nat, i = .int .i64 k ∧ k ≤ len ∧ Hid (effPlace (es.drop k) s k = R)) (fun i => len - (intOf i).toNat)
  case atStart => exact ⟨0, rfl, Nat.zero_le _, HR.out⟩
  case round =>
    obtain ⟨k, rfl, hle, HT⟩ := hrel
    by_cases hlt : (k : Int) < (len : Int)
    · have hil : k < es.length := by rw [Hlen.out]; omega
      obtain ⟨b, off, rfl, hE⟩ := HN.out (fun h => by rw [h] at hil; cases hil)
      have c0 := hE k hil 0 (by omega)
      have hT := HT.out
      rw [effs_drop hil] at hT
      obtain ⟨n, hnd⟩ : ∃ n, es.getD k default = n := ⟨_, rfl⟩
      rw [hnd] at c0 hT
      simp only [Ef.cell, Nat.add_zero] at c0
      clear HT HN hil hE hnd
      cases he : (n.name.toList == s.toList) with
      | true =>
        simp only [effPlace, he, if_true] at hT
        have HT2 : Hid ((k : Int) = R) := hT
        clear hT
        go_wp2_with fail
        go_ret
        exact ⟨by rw [← HT2.out]; rfl, rfl⟩
      | false =>
        have HT2 : Hid (effPlace (es.drop (k + 1)) s (k + 1) = R) := by
          show _ = _
          rw [← hT, effPlace, he]
          simp
        clear hT
        go_wp2_with fail
        have hs : len - (intOf (.int .i64 ((k + 1 : Nat) : Int))).toNat < len - (intOf (.int .i64 (k : Int))).toNat := by simp only [intOf, Int.toNat_natCast]; omega
        try rw [show wrap64 ((k : Int) + 1) = ((k + 1 : Nat) : Int) by have := HM.out; unfold wrap64; omega]
        exact ⟨⟨k + 1, rfl, by omega, HT2⟩, hs⟩
    · have hT := HT.out
      rw [List.drop_eq_nil_of_le (by rw [Hlen.out]; omega)] at hT
      have HT2 : Hid ((-1 : Int) = R) := hT
      clear hT HT HN
      go_wp2_with fail
      go_ret
      exact ⟨by rw [← HT2.out]; rfl, rfl⟩

theorem place_ge (es : List Ef) (s : ByteArray) : decide (0 ≤ effPlace es s 0) = effIn es s := by
  have := effPlace_lt es s 0
  cases h : effIn es s with
  | false => rw [decide_eq_false]; have := this.2 h; omega
  | true =>
    rw [decide_eq_true]
    rcases Int.lt_or_le (effPlace es s 0) 0 with h' | h'
    · rw [this.1 h'] at h; cases h
    · exact h'

end Go.Proofs.Ytnhofdngmbnlkaa