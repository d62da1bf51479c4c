/- The name test of the specification and of the program both answer whether a text is a name. -/
import Derived.Test.YtkdipppeljpgmaaGreatDoorKeyWalks
import Derived.Test.YtkdipppeljpgmaaGreatDoorCharWalks
namespace Go.Proofs.YtkdipppeljpgmaaGreatDoor
open Go.RowKit Go.Maps Go.WideMaps

/-- May this byte stand at this place of a name? -/
def nameAt (s : ByteArray) (j : Nat) : Bool := letterZ (bz s j) || (j != 0 && digitZ (bz s j))

def nameOk (s : ByteArray) : Bool := decide (1 ≤ s.size) && decide (s.size ≤ 8) && (List.range s.size).all (nameAt s) && !isKey s

theorem nameOk_size {s : ByteArray} (h : ¬ (1 ≤ s.size ∧ s.size ≤ 8)) : nameOk s = false := by
  by_cases h1 : 1 ≤ s.size
  · have h8 : ¬ s.size ≤ 8 := fun x => h ⟨h1, x⟩
    simp [nameOk, h8]
  · simp [nameOk, h1]

theorem nameOk_part {s : ByteArray} {j : Nat} (hj : j < s.size) (h : nameAt s j = false) : nameOk s = false := by
  have : (List.range s.size).all (nameAt s) = false := by
    rw [List.all_eq_false]
    exact ⟨j, List.mem_range.2 hj, by simp [h]⟩
  simp [nameOk, this]

theorem nameOk_key {s : ByteArray} (h : isKey s = true) : nameOk s = false := by simp [nameOk, h]

theorem nameOk_all {s : ByteArray} (h1 : 1 ≤ s.size) (h8 : s.size ≤ 8) (h : ∀ j, j < s.size → nameAt s j = true) : nameOk s = !isKey s := by
  have : (List.range s.size).all (nameAt s) = true := by
    rw [List.all_eq_true]
    exact fun j hj => h j (List.mem_range.1 hj)
  simp [nameOk, this, h1, h8]

set_option maxRecDepth 100000 in
theorem specName_calls (s : ByteArray) (w : World) :
    Calls Tryz.prog 36 #[.string s] w fun e w' => e = .returned (.bool (nameOk s)) ∧ Below w.heap.size w w' := by
  by_cases h1 : (s.size : Int) < 1
  · have hno : Hid (nameOk s = false) := nameOk_size (by omega)
    go_enter Tryz.func36, Tryz.ntmps36
    go_wp2_with fail
    go_ret
    exact ⟨by rw [hno.out]; rfl, Below.refl _ _⟩
  by_cases h8 : (8 : Int) < s.size
  · have hno : Hid (nameOk s = false) := nameOk_size (by omega)
    go_enter Tryz.func36, Tryz.ntmps36
    go_wp2_with fail
    go_ret
    exact ⟨by rw [hno.out]; rfl, Below.refl _ _⟩
  have hpos : 0 < s.size := by omega
  cases hL : letterZ ((s[0]'hpos).toNat : Int) with
  | false =>
    have hno : Hid (nameOk s = false) := nameOk_part hpos (by simp [nameAt, bz_at s hpos, hL])
    go_enter Tryz.func36, Tryz.ntmps36
    go_wp2_with (first | (go_at_call 54; refine (letter17 _ _).mono ?_; rintro e w1 ⟨rfl, rfl⟩))
    go_ret
    exact ⟨by rw [hno.out]; rfl, Below.refl _ _⟩
  | true =>
    cases hK : isKey s with
    | true =>
      have hno : Hid (nameOk s = false) := nameOk_key hK
      go_enter Tryz.func36, Tryz.ntmps36
      go_wp2_with (first | (go_at_call 54; refine (letter17 _ _).mono ?_; rintro e w1 ⟨rfl, rfl⟩) | (go_at_call 55; refine (specKey_calls s _).mono ?_; rintro e w1 ⟨rfl, hb1⟩))
      go_ret
      exact ⟨by rw [hno.out]; rfl, hb1⟩
    | false =>
      go_enter Tryz.func36, Tryz.ntmps36
      go_wp2_with (first | (go_at_call 54; refine (letter17 _ _).mono ?_; rintro e w1 ⟨rfl, rfl⟩) | (go_at_call 55; refine (specKey_calls s _).mono ?_; rintro e w1 ⟨rfl, hb1⟩))
      go_loop [3] (fun i => ∃ k : Nat, k ≤ s.size ∧ i = .int .i64 k ∧ ∀ j, j < k → (letterZ (bz s j) || digitZ (bz s j)) = true) (fun i => s.size - (intOf i).toNat)
      case atStart => exact ⟨0, Nat.zero_le _, rfl, fun j hj => by omega⟩
      case round =>
        obtain ⟨k, hk, rfl, hno⟩ := hrel
        have hno' : Hid (∀ j, j < k → (letterZ (bz s j) || digitZ (bz s j)) = true) := hno
        clear hno
        go_wp2_with (first | (go_at_call 54; refine (letter17 _ _).mono ?_; rintro e w2 ⟨rfl, rfl⟩) | (go_at_call 52; refine (digit18 _ _).mono ?_; rintro e w2 ⟨rfl, rfl⟩))
        · have hlt : k < s.size := by assumption
          have hyes : letterZ ((s[k]'hlt).toNat : Int) = true := by assumption
          refine ⟨⟨k + 1, by omega, by simp, fun j hj => ?_⟩, by simp [intOf]; omega⟩
          by_cases hjk : j < k
          · exact hno'.out j hjk
          · have e : j = k := by omega
            rw [e, bz_at s hlt, hyes]
            rfl
        · have hlt : k < s.size := by assumption
          have hnl : ¬ letterZ ((s[k]'hlt).toNat : Int) = true := by assumption
          have hnd : (!digitZ ((s[k]'hlt).toNat : Int)) = true := by assumption
          have hno : nameOk s = false := nameOk_part hlt (by rw [nameAt, bz_at s hlt]; simp at hnl hnd; simp [hnl, hnd])
          go_ret
          exact ⟨by rw [hno]; rfl, hb1⟩
        · have hlt : k < s.size := by assumption
          have hd : (!digitZ ((s[k]'hlt).toNat : Int)) = false := by assumption
          refine ⟨⟨k + 1, by omega, by simp, fun j hj => ?_⟩, by simp [intOf]; omega⟩
          by_cases hjk : j < k
          · exact hno'.out j hjk
          · have e : j = k := by omega
            rw [e, bz_at s hlt]
            simp at hd
            simp [hd]
        · have hge : ¬ k < s.size := by assumption
          have hyes : nameOk s = true := by
            rw [nameOk_all (by omega) (by omega) (fun j hj => ?_), hK]
            · rfl
            · have h := hno'.out j (by omega)
              unfold nameAt
              by_cases hj0 : j = 0
              · subst hj0
                rw [bz_at s hpos, hL]
                rfl
              · simp at h
                rcases h with h | h
                · simp [h]
                · simp [h, hj0]
          go_ret
          exact ⟨by rw [hyes]; rfl, hb1⟩

set_option maxRecDepth 100000 in
theorem implName_calls (s : ByteArray) (hs : s.size ≤ maxLen) (w : World) :
    Calls Tryz.prog 46 #[.string s] w fun e w' => e = .returned (.bool (nameOk s)) ∧ Below w.heap.size w w' := by
  by_cases h1 : (s.size : Int) < 1
  · have hno : Hid (nameOk s = false) := nameOk_size (by omega)
    go_enter Tryz.func46, Tryz.ntmps46
    go_wp2_with fail
    go_ret
    exact ⟨by rw [hno.out]; rfl, Below.refl _ _⟩
  by_cases h8 : (8 : Int) < s.size
  · have hno : Hid (nameOk s = false) := nameOk_size (by omega)
    go_enter Tryz.func46, Tryz.ntmps46
    go_wp2_with fail
    go_ret
    exact ⟨by rw [hno.out]; rfl, Below.refl _ _⟩
  go_enter Tryz.func46, Tryz.ntmps46
  go_wp2_with fail
  go_loopg [] s.size (fun g wx => ∃ pos : Nat, wx.heap[w.heap.size]? = some (.stringIter s pos) ∧ Below w.heap.size w wx ∧ (∀ j, j < pos → nameAt s j = true) ∧ s.size ≤ pos + g)
  case atStart => exact ⟨0, World.iter_heap w s 0, (Below.refl _ w).alloc (Nat.le_refl _) _, fun j hj => by omega, by omega⟩
  case round =>
    obtain ⟨pos, hit, hbw, hall, hfu⟩ := hrel
    have hall' : Hid (∀ j, j < pos → nameAt s j = true) := hall
    clear hall
    by_cases hp : pos < s.size
    · obtain ⟨g, rfl⟩ : ∃ g, gk = g + 1 := ⟨gk - 1, by omega⟩
      by_cases ha : (s[pos]'hp).toNat < 128
      · have hnx : ∀ ty, (Instr.next (.pointer (some ⟨w.heap.size, 0, none⟩)) true ty).run Tryz.prog wr = _ := fun ty => Lib.run_next_ascii_at wr w.heap.size s pos ty hit hp ha
        have hit2 := Lib.iterAt_heap wr w.heap.size s pos (pos + 1) hit
        have hbw2 := Lib.below_iterAt hbw (k := w.heap.size) (Nat.le_refl _) s (pos + 1)
        obtain ⟨W, hWd⟩ : ∃ W, wr.iterAt w.heap.size s (pos + 1) = W := ⟨_, rfl⟩
        rw [hWd] at hnx hit2 hbw2
        have hit3 : Hid (W.heap[w.heap.size]? = some (.stringIter s (pos + 1))) := hit2
        clear hWd hit hbw hit2
        have hbz : Hid (bz s pos = ((s[pos]'hp).toNat : Int)) := bz_at s hp
        generalize ((s[pos]'hp).toNat : Int) = x at *
        cases hL : letterZ x with
        | true =>
          go_wp2_with (first | (go_at_call 62; refine (letter19 _ _).mono ?_; rintro e w2 ⟨rfl, rfl⟩) | (go_at_call 60; refine (digit20 _ _).mono ?_; rintro e w2 ⟨rfl, rfl⟩))
          go_roundg g
          case measure => omega
          case rel =>
            refine ⟨pos + 1, hit3.out, hbw2, fun j hj => ?_, by omega⟩
            by_cases hjp : j < pos
            · exact hall'.out j hjp
            · have e : j = pos := by omega
              rw [e, nameAt, hbz.out, hL]
              rfl
        | false =>
          by_cases h0 : pos = 0
          · have hno : Hid (nameOk s = false) := nameOk_part hp (by rw [nameAt, hbz.out, hL, h0]; rfl)
            subst h0
            go_wp2_with (first | (go_at_call 62; refine (letter19 _ _).mono ?_; rintro e w2 ⟨rfl, rfl⟩) | (go_at_call 60; refine (digit20 _ _).mono ?_; rintro e w2 ⟨rfl, rfl⟩))
            go_ret
            exact ⟨by rw [hno.out]; rfl, hbw2⟩
          · have hz : ((pos : Int) == 0) = false := by rw [beq_eq_false_iff_ne]; omega
            cases hD : digitZ x with
            | true =>
              go_wp2_with (first | (go_at_call 62; refine (letter19 _ _).mono ?_; rintro e w2 ⟨rfl, rfl⟩) | (go_at_call 60; refine (digit20 _ _).mono ?_; rintro e w2 ⟨rfl, rfl⟩))
              go_roundg g
              case measure => omega
              case rel =>
                refine ⟨pos + 1, hit3.out, hbw2, fun j hj => ?_, by omega⟩
                by_cases hjp : j < pos
                · exact hall'.out j hjp
                · have e : j = pos := by omega
                  rw [e, nameAt, hbz.out, hL, hD]
                  simp [h0]
            | false =>
              have hno : Hid (nameOk s = false) := nameOk_part hp (by rw [nameAt, hbz.out, hL, hD]; simp)
              go_wp2_with (first | (go_at_call 62; refine (letter19 _ _).mono ?_; rintro e w2 ⟨rfl, rfl⟩) | (go_at_call 60; refine (digit20 _ _).mono ?_; rintro e w2 ⟨rfl, rfl⟩))
              go_ret
              exact ⟨by rw [hno.out]; rfl, hbw2⟩
      · have hnx : ∀ ty, (Instr.next (.pointer (some ⟨w.heap.size, 0, none⟩)) true ty).run Tryz.prog wr = _ := fun ty => Lib.run_next_any_at wr w.heap.size s pos ty hit hp
        have hhi := (decode_high s pos hp (by omega)).1
        have hbw2 := Lib.below_iterAt hbw (k := w.heap.size) (Nat.le_refl _) s (pos + (Utf8.decode s pos).2)
        obtain ⟨R, hR⟩ : ∃ R, (Utf8.decode s pos).1 = R := ⟨_, rfl⟩
        rw [hR] at hnx hhi
        obtain ⟨W, hWd⟩ : ∃ W, wr.iterAt w.heap.size s (pos + (Utf8.decode s pos).2) = W := ⟨_, rfl⟩
        rw [hWd] at hnx hbw2
        clear hWd hit hbw hR
        have hL : letterZ (R : Int) = false := by simp [letterZ]; omega
        have hD : digitZ (R : Int) = false := by simp [digitZ]; omega
        have hno : Hid (nameOk s = false) := by
          have h1 : letterZ ((s[pos]'hp).toNat : Int) = false := by simp [letterZ]; omega
          have h2 : digitZ ((s[pos]'hp).toNat : Int) = false := by simp [digitZ]; omega
          exact nameOk_part hp (by rw [nameAt, bz_at s hp, h1, h2]; simp)
        clear ha hhi
        go_wp2_with (first | (go_at_call 62; refine (letter19 _ _).mono ?_; rintro e w2 ⟨rfl, rfl⟩) | (go_at_call 60; refine (digit20 _ _).mono ?_; rintro e w2 ⟨rfl, rfl⟩))
        all_goals go_ret
        all_goals exact ⟨by rw [hno.out]; rfl, hbw2⟩
    · have hnx : ∀ ty, (Instr.next (.pointer (some ⟨w.heap.size, 0, none⟩)) true ty).run Tryz.prog wr = _ := fun ty => Lib.run_next_end_at wr w.heap.size s pos ty hit hp
      have hyes : Hid (nameOk s = !isKey s) := nameOk_all (by omega) (by omega) (fun j hj => hall'.out j (by omega))
      go_wp2_with (first | (go_at_call 79; refine (implKey_calls s hs _).mono ?_; rintro e w2 ⟨rfl, hb2⟩))
      go_ret
      exact ⟨by rw [hyes.out]; rfl, hbw.trans (hb2.mono hbw.size)⟩
end Go.Proofs.YtkdipppeljpgmaaGreatDoor
