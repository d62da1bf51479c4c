/- The specification's parser: what a number is. -/
import Derived.Test.YtkdipppeljpgmaaGreatDoorPzRow
namespace Go.Proofs.YtkdipppeljpgmaaGreatDoor
open Go.RowKit Go.Deep

/-- Digits alone, few. -/
def NumB (t : ByteArray) : Prop := t.size ≤ 9 ∧ ∀ b ∈ t.toList, 48 ≤ b.toNat ∧ b.toNat ≤ 57
def NumW (ws : List Wd) : Prop := ∀ w ∈ ws, w.kind = 1 → NumB w.text

theorem numZ_app (l : List UInt8) (b : UInt8) : numZ (l ++ [b]) = 10 * numZ l + (b.toNat - 48) := by
  unfold numZ
  rw [List.foldl_append]
  rfl

theorem bytes_list (t : ByteArray) : t.toList = t.data.toList := ByteArray.toList_eq t

theorem take_next (t : ByteArray) {k : Nat} (h : k < t.size) : t.toList.take (k + 1) = t.toList.take k ++ [t[k]'h] := by
  rw [bytes_list]
  have h' : k < t.data.toList.length := by simpa using h
  rw [List.take_add_one, List.getElem?_eq_getElem h']
  rfl

set_option maxRecDepth 100000 in
theorem num_calls (t : ByteArray) (ht : NumB t) (W : World) :
    Calls Tryz.prog 121 #[.string t] W fun e W' => e = .returned (.int .i64 (numZ t.toList : Int)) ∧ W = W' := by
  obtain ⟨R, hR⟩ : ∃ R, numZ t.toList = R := ⟨_, rfl⟩
  have HR := hid hR
  rw [hR]
  clear hR
  have HT := hid ht
  clear ht
  go_enter Tryz.func121, Tryz.ntmps121
  go_wp2_with fail
  go_loop [3, 4] (fun n i => ∃ k m : Nat, i = .int .i64 k ∧ n = .int .i64 m ∧ k ≤ t.size ∧ Hid (m = numZ (t.toList.take k) ∧ m < 10 ^ k)) (fun _ i => t.size - (intOf i).toNat)
  case atStart => exact ⟨0, 0, rfl, rfl, Nat.zero_le _, rfl, by decide⟩
  case round =>
    obtain ⟨k, m, rfl, rfl, hk, HM⟩ := hrel
    by_cases hlt : k < t.size
    · obtain ⟨x, hx⟩ : ∃ x : Nat, (t[k]'hlt).toNat = x := ⟨_, rfl⟩
      have h9 := HT.out.1
      have hmem : (t[k]'hlt) ∈ t.toList := by rw [bytes_list]; exact List.getElem_mem (l := t.data.toList) (by simpa using hlt)
      have hd := HT.out.2 _ hmem
      rw [hx] at hd
      have hp : 10 ^ k ≤ 10 ^ 8 := Nat.pow_le_pow_right (by decide) (by omega)
      have hp8 : (10 : Nat) ^ 8 = 100000000 := by decide
      have hm := HM.out.2
      have w1 : wrap64 (10 * (m : Int)) = 10 * (m : Int) := by unfold wrap64; omega
      have w2 : wrap64 (10 * (m : Int) + ((x : Int) - 48) % 256) = ((10 * m + (x - 48) : Nat) : Int) := by unfold wrap64; omega
      have W1 := hid w1
      have W2 := hid w2
      have HN := hid (show 10 * m + (x - 48) = numZ (t.toList.take (k + 1)) ∧ 10 * m + (x - 48) < 10 ^ (k + 1) from by
        rw [take_next t hlt, numZ_app, ← HM.out.1, hx]
        refine ⟨rfl, ?_⟩
        rw [Nat.pow_succ]
        omega)
      have HS := hid (wrap_succ (x := k) (by omega))
      clear w1 w2 hp hp8 hm hd hmem h9
      go_wp2_with fail
      rw [W1.out, W2.out, HS.out]
      exact ⟨⟨k + 1, _, rfl, rfl, by omega, HN⟩, by simp only [intOf, Int.toNat_natCast]; omega⟩
    · have hf := hid (show m = R by
        have h : t.toList.length ≤ k := by
          rw [bytes_list, Array.length_toList]
          exact Nat.le_of_not_lt hlt
        rw [HM.out.1, ← HR.out, List.take_of_length_le h])
      have hkk : t.size ≤ k := by omega
      go_wp2_with fail
      go_ret
      rw [hf.out]
      exact ⟨rfl, rfl⟩
end Go.Proofs.YtkdipppeljpgmaaGreatDoor
