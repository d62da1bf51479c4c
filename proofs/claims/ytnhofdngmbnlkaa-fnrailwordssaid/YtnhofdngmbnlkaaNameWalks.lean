/- The name test of the specification and of the program both answer whether a text is a name. -/
import Derived.Test.YtnhofdngmbnlkaaKeyWalks
import Derived.Test.YtnhofdngmbnlkaaCharWalks
namespace Go.Proofs.Ytnhofdngmbnlkaa
open Go.RowKit Go.Maps Go.WideMaps

/-- May this byte stand at this place of a name? -/
def nameAt (s : ByteArray) (j : Nat) : Bool := letterZ (bz s j) || (j != 0 && digitZ (bz s j))

def nameOk (s : ByteArray) : Bool := decide (1 ≤ s.size) && decide (s.size ≤ 8) && (List.range s.size).all (nameAt s) && !isKey s

theorem nameOk_size {s : ByteArray} (h : ¬ (1 ≤ s.size ∧ s.size ≤ 8)) : nameOk s = false := by
  by_cases h1 : 1 ≤ s.size
  · have h8 : ¬ s.size ≤ 8 := fun x => h ⟨h1, x⟩
    simp [nameOk, h8]
  · simp [nameOk, h1]

theorem nameOk_part {s : ByteArray} {j : Nat} (hj : j < s.size) (h : nameAt s j = false) : nameOk s = false := by
  have : (List.range s.size).all (nameAt s) = false := by
    rw [List.all_eq_false]
    exact ⟨j, List.mem_range.2 hj, by simp [h]⟩
  simp [nameOk, this]

theorem nameOk_key {s : ByteArray} (h : isKey s = true) : nameOk s = false := by simp [nameOk, h]

theorem nameOk_all {s : ByteArray} (h1 : 1 ≤ s.size) (h8 : s.size ≤ 8) (h : ∀ j, j < s.size → nameAt s j = true) : nameOk s = !isKey s := by
  have : (List.range s.size).all (nameAt s) = true := by
    rw [List.all_eq_true]
    exact fun j hj => h j (List.mem_range.1 hj)
  simp [nameOk, this, h1, h8]

set_option maxRecDepth 100000 in
theorem specName_calls (s : ByteArray) (w : World) :
    Calls Try.prog 41 #[.string s] w fun e w' => e = .returned (.bool (nameOk s)) ∧ Below w.heap.size w w' := by
  by_cases h1 : (s.size : Int) < 1
  · have hno : Hid (nameOk s = false) := nameOk_size (by omega)
    go_enter Try.func41, Try.ntmps41
    go_wp2_with fail
    go_ret
    exact ⟨by rw [hno.out]; rfl, Below.refl _ _⟩
  by_cases h8 : (8 : Int) < s.size
  · have hno : Hid (nameOk s = false) := nameOk_size (by omega)
    go_enter Try.func41, Try.ntmps41
    go_wp2_with fail
    go_ret
    exact ⟨by rw [hno.out]; rfl, Below.refl _ _⟩
  have hpos : 0 < s.size := by omega
  cases hL : letterZ ((s[0]'hpos).toNat : Int) with
  | false =>
    have hno : Hid (nameOk s = false) := nameOk_part hpos (by simp [nameAt, bz_at s hpos, hL])
    go_enter Try.func41, Try.ntmps41
    go_wp2_with (first | (go_at_call 23; refine (letter17 _ _).mono ?_; rintro e w1 ⟨rfl, rfl⟩))
    go_ret
    exact ⟨by rw [hno.out]; rfl, Below.refl _ _⟩
  | true =>
    cases hK : isKey s with
    | true =>
      have hno : Hid (nameOk s = false) := nameOk_key hK
      go_enter Try.func41, Try.ntmps41
      go_wp2_with (first | (go_at_call 23; refine (letter17 _ _).mono ?_; rintro e w1 ⟨rfl, rfl⟩) | (go_at_call 24; refine (specKey_calls s _).mono ?_; rintro e w1 ⟨rfl, hb1⟩))
      go_ret
      exact ⟨by rw [hno.out]; rfl, hb1⟩
    | false =>
      go_enter Try.func41, Try.ntmps41
      go_wp2_with (first | (go_at_call 23; refine (letter17 _ _).mono ?_; rintro e w1 ⟨rfl, rfl⟩) | (go_at_call 24; refine (specKey_calls s _).mono ?_; rintro e w1 ⟨rfl, hb1⟩))
      go_loop [3] (fun i => ∃ k : Nat, k ≤ s.size ∧ i = .int .i64 k ∧ ∀ j, j < k → (letterZ (bz s j) || digitZ (bz s j)) = true) (fun i => s.size - (intOf i).toNat)
      case atStart => exact ⟨0, Nat.zero_le _, rfl, fun j hj => by omega⟩
      case round =>
        obtain ⟨k, hk, rfl, hno⟩ := hrel
        have hno' : Hid (∀ j, j < k → (letterZ (bz s j) || digitZ (bz s j)) = true) := hno
        clear hno
        go_wp2_with (first | (go_at_call 23; refine (letter17 _ _).mono ?_; rintro e w2 ⟨rfl, rfl⟩) | (go_at_call 21; refine (digit18 _ _).mono ?_; rintro e w2 ⟨rfl, rfl⟩))
        · have hlt : k < s.size := by assumption
          have hyes : letterZ ((s[k]'hlt).toNat : Int) = true := by assumption
          refine ⟨⟨k + 1, by omega, by simp, fun j hj => ?_⟩, by simp [intOf]; omega⟩
          by_cases hjk : j < k
          · exact hno'.out j hjk
          · have e : j = k := by omega
            rw [e, bz_at s hlt, hyes]
            rfl
        · have hlt : k < s.size := by assumption
          have hnl : ¬ letterZ ((s[k]'hlt).toNat : Int) = true := by assumption
          have hnd : (!digitZ ((s[k]'hlt).toNat : Int)) = true := by assumption
          have hno : nameOk s = false := nameOk_part hlt (by rw [nameAt, bz_at s hlt]; simp at hnl hnd; simp [hnl, hnd])
          go_ret
          exact ⟨by rw [hno]; rfl, hb1⟩
        · have hlt : k < s.size := by assumption
          have hd : (!digitZ ((s[k]'hlt).toNat : Int)) = false := by assumption
          refine ⟨⟨k + 1, by omega, by simp, fun j hj => ?_⟩, by simp [intOf]; omega⟩
          by_cases hjk : j < k
          · exact hno'.out j hjk
          · have e : j = k := by omega
            rw [e, bz_at s hlt]
            simp at hd
            simp [hd]
        · have hge : ¬ k < s.size := by assumption
          have hyes : nameOk s = true := by
            rw [nameOk_all (by omega) (by omega) (fun j hj => ?_), hK]
            · rfl
            · have h := hno'.out j (by omega)
              unfold nameAt
              by_cases hj0 : j = 0
              · subst hj0
                rw [bz_at s hpos, hL]
                rfl
              · simp at h
                rcases h with h | h
                · simp [h]
                · simp [h, hj0]
          go_ret
          exact ⟨by rw [hyes]; rfl, hb1⟩

end Go.Proofs.Ytnhofdngmbnlkaa