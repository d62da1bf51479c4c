/- The specification's word at a place is the plain one. -/
import Derived.Test.YtkdipppeljpgmaaGreatDoorPureLex
import Derived.Test.YtkdipppeljpgmaaGreatDoorKept
import Derived.Deep.QuietTactic
import Derived.BigQuiet
import Derived.BigRegion
namespace Go.Proofs.YtkdipppeljpgmaaGreatDoor
open Go.RowKit

set_option maxRecDepth 100000 in
theorem run_calls (s : ByteArray) (p : Nat) (l : Bool) (hp : p ≤ s.size) (hs : s.size ≤ 1500) (w : World) :
    Calls Tryz.prog 53 #[.string s, .int .i64 p, .bool l] w fun e w' => e = .returned (.int .i64 (runTo s l p)) ∧ w = w' := by
  obtain ⟨R, hR⟩ : ∃ R, runTo s l p = R := ⟨_, rfl⟩
  have HR : Hid (runTo s l p = R) := hR
  rw [hR]
  clear hR
  go_enter Tryz.func53, Tryz.ntmps53
  go_wp2_with fail
  go_loop [1] (fun a => ∃ k : Nat, a = .int .i64 k ∧ p ≤ k ∧ k ≤ s.size ∧ Hid (∀ j, p ≤ j → j < k → okb l (bz s j) = true)) (fun a => s.size - (intOf a).toNat)
  case atStart => exact ⟨p, rfl, Nat.le_refl _, hp, fun j h1 h2 => by omega⟩
  case round =>
    obtain ⟨k, rfl, hpk, hks, HA⟩ := hrel
    have fin : ¬ (k < s.size ∧ okb l (bz s k) = true) → Hid (R = k) := fun h => by
      rw [← HR.out]
      refine (IsRun.eq ⟨hpk, hks, HA.out, fun hlt => ?_⟩).symm
      cases hk : okb l (bz s k) with
      | false => rfl
      | true => exact absurd ⟨hlt, hk⟩ h
    have step : okb l (bz s k) = true → Hid (∀ j, p ≤ j → j < k + 1 → okb l (bz s j) = true) := fun h j h1 h2 => by
      by_cases e : j = k
      · rw [e]
        exact h
      · exact HA.out j h1 (by omega)
    clear HR HA
    by_cases hlt : k < s.size
    · have hb := bz_at s hlt
      cases hd : digitZ ((s[k]'hlt).toNat : Int) with
      | true =>
        have HS := step (by rw [hb, okb, hd]; rfl)
        clear fin step hb
        go_wp2_with (first | (go_at_call 52; refine (digit18 _ _).mono ?_; rintro e w2 ⟨rfl, rfl⟩) | (go_at_call 54; refine (letter17 _ _).mono ?_; rintro e w2 ⟨rfl, rfl⟩))
        exact ⟨⟨k + 1, by simp, by omega, by omega, HS⟩, by simp [intOf]; omega⟩
      | false =>
        cases l with
        | false =>
          have HF := fin (fun h => by rw [hb, okb, hd] at h; simp at h)
          clear fin step hb
          go_wp2_with (first | (go_at_call 52; refine (digit18 _ _).mono ?_; rintro e w2 ⟨rfl, rfl⟩) | (go_at_call 54; refine (letter17 _ _).mono ?_; rintro e w2 ⟨rfl, rfl⟩))
          go_ret
          exact ⟨by rw [HF.out]; rfl, rfl⟩
        | true =>
          cases hL : letterZ ((s[k]'hlt).toNat : Int) with
          | true =>
            have HS := step (by rw [hb, okb, hd, hL]; rfl)
            clear fin step hb
            go_wp2_with (first | (go_at_call 52; refine (digit18 _ _).mono ?_; rintro e w2 ⟨rfl, rfl⟩) | (go_at_call 54; refine (letter17 _ _).mono ?_; rintro e w2 ⟨rfl, rfl⟩))
            exact ⟨⟨k + 1, by simp, by omega, by omega, HS⟩, by simp [intOf]; omega⟩
          | false =>
            have HF := fin (fun h => by rw [hb, okb, hd, hL] at h; simp at h)
            clear fin step hb
            go_wp2_with (first | (go_at_call 52; refine (digit18 _ _).mono ?_; rintro e w2 ⟨rfl, rfl⟩) | (go_at_call 54; refine (letter17 _ _).mono ?_; rintro e w2 ⟨rfl, rfl⟩))
            go_ret
            exact ⟨by rw [HF.out]; rfl, rfl⟩
    · have HF := fin (fun h => hlt h.1)
      clear fin step
      go_wp2_with fail
      go_ret
      exact ⟨by rw [HF.out]; rfl, rfl⟩

set_option maxRecDepth 100000 in
theorem signs_calls (w : World) :
    Calls Tryz.prog 84 #[] w fun e w' => e = .returned (.slice (some ⟨w.heap.size, 0, none⟩) 14 14) ∧ w' = w.alloc (.cells (signStrs.map Value.string).toArray 9) := by
  go_enter Tryz.func84, Tryz.ntmps84
  go_wp2
  go_ret
  exact ⟨rfl, rfl⟩

theorem signCells (w : World) (j : Nat) (hj : j < signStrs.length) : (w.alloc (.cells (signStrs.map Value.string).toArray 9)).cell? ⟨w.heap.size, j, none⟩ = some (.string (signStrs.getD j ByteArray.empty)) := by
  have h1 : (w.alloc (.cells (signStrs.map Value.string).toArray 9)).heap[w.heap.size]? = some (.cells (signStrs.map Value.string).toArray 9) := (MapKept.heap_alloc w _).1
  have e : signStrs.getD j ByteArray.empty = signStrs[j] := by simp [List.getD, List.getElem?_eq_getElem hj]
  rw [e]
  unfold World.cell?
  dsimp only
  rw [h1]
  simp [hj]

set_option maxRecDepth 100000 in
theorem sign_calls (s : ByteArray) (w : World) :
    Calls Tryz.prog 56 #[.string s] w fun e w' => e = .returned (.string (signOf s)) ∧ Below w.heap.size w w' := by
  go_enter Tryz.func56, Tryz.ntmps56
  go_wp2_with fail
  refine (signs_calls _).mono ?_
  rintro e w1 ⟨rfl, hw1⟩
  have hcell := signCells w
  rw [← hw1] at hcell
  have hb1 : Below w.heap.size w w1 := by rw [hw1]; exact (Below.refl _ _).alloc (Nat.le_refl _) _
  clear hw1
  go_wp2_with fail
  go_loopw [4] (fun i wr => ∃ k d : Nat, i = .int .i64 k ∧ k ≤ 14 ∧ wr = w1.drewN d ∧ Hid (∀ j, j < k → signHit s (signStrs.getD j ByteArray.empty) = false)) (fun i _ => 14 - (intOf i).toNat)
  case atStart => exact ⟨0, 0, rfl, by omega, rfl, fun j hj => by omega⟩
  case round =>
    obtain ⟨k, d, rfl, hk, rfl, HA⟩ := hrel
    by_cases hlt : k < 14
    · have c := hcell k hlt
      obtain ⟨g, hg⟩ : ∃ g, signStrs.getD k ByteArray.empty = g := ⟨_, rfl⟩
      have HG : Hid (signStrs.getD k ByteArray.empty = g) := hg
      rw [hg] at c
      clear hcell hg
      have hi : (k : Int) < 14 := by omega
      have step : signHit s g = false → Hid (∀ j, j < k + 1 → signHit s (signStrs.getD j ByteArray.empty) = false) := fun h j hj => by
        by_cases e : j = k
        · rw [e, HG.out]
          exact h
        · exact HA.out j (by omega)
      have fin : signHit s g = true → Hid (signOf s = g) := fun h => signOf_hit hlt HG.out h HA.out
      clear HA HG
      by_cases hge : g.size ≤ s.size
      · cases hm : ((s.extract 0 g.size).toList == g.toList) with
        | true =>
          have HF := fin (by simp only [signHit, hm, hge, decide_true, Bool.and_self])
          clear fin step
          go_wp2_with fail
          go_quiet (fail)
          go_wp2_with fail
          go_ret
          exact ⟨by rw [HF.out]; rfl, below_drewN hb1 _⟩
        | false =>
          have HS := step (by simp only [signHit, hm, Bool.and_false])
          clear fin step
          go_wp2_with fail
          go_quiet (fail)
          go_wp2_with fail
          exact ⟨⟨k + 1, _, by simp, by omega, rfl, HS⟩, by simp [intOf]; omega⟩
      · have HS := step (by simp only [signHit, hge, decide_false, Bool.false_and])
        clear fin step
        have hge' : decide (g.size ≤ s.size) = false := decide_eq_false hge
        go_wp2_with fail
        go_quiet (fail)
        go_wp2_with fail
        exact ⟨⟨k + 1, _, by simp, by omega, rfl, HS⟩, by simp [intOf]; omega⟩
    · have hk14 : k = 14 := by omega
      have HF : Hid (signOf s = ByteArray.empty) := signOf_none (hk14 ▸ HA.out)
      clear HA
      go_wp2_with fail
      go_ret
      exact ⟨by rw [HF.out]; rfl, below_drewN hb1 _⟩

theorem extract_size {s : ByteArray} {a b : Nat} (h1 : a ≤ b) (h2 : b ≤ s.size) : (s.extract a b).size = b - a := by
  simp [ByteArray.size_extract]
  omega

set_option maxHeartbeats 1000000 in
set_option maxRecDepth 100000 in
theorem word_digit (s : ByteArray) (p : Nat) (hp : p < s.size) (hs : s.size ≤ 1500) (hd : digitZ ((s[p]'hp).toNat : Int) = true) (w : World) :
    Calls Tryz.prog 26 #[.string s, .int .i64 p] w fun e w' => e = .returned (wordVal (wordAt s p)) ∧ Below w.heap.size w w' := by
  have hb := bz_at s hp
  obtain ⟨V, hV⟩ : ∃ V, wordAt s p = V := ⟨_, rfl⟩
  rw [hV]
  unfold wordAt at hV
  rw [hb] at hV
  obtain ⟨h1, h2, h3, h4⟩ := isRun_runTo s false (p := p) (by omega)
  have hrun := run_calls s p false (by omega) hs
  obtain ⟨R, hR⟩ : ∃ R, runTo s false p = R := ⟨_, rfl⟩
  rw [hR] at h1 h2 h3 h4 hrun
  rw [if_pos hd, hR] at hV
  dsimp only at hV
  have HR : Hid (∀ w, _) := hrun
  clear hrun hR h3 h4 hb
  by_cases h9 : 9 < R - p
  · rw [if_pos (Or.inl h9)] at hV
    subst hV
    go_enter Tryz.func26, Tryz.ntmps26
    go_wp2_with (first | (go_at_call 52; refine (digit18 _ _).mono ?_; rintro e w2 ⟨rfl, rfl⟩) | (go_at_call 54; refine (letter17 _ _).mono ?_; rintro e w2 ⟨rfl, rfl⟩) | (go_at_call 53; refine (HR.out _).mono ?_; rintro e w2 ⟨rfl, rfl⟩))
    refine bodyPost_ret (v := wordVal (.error 3)) (by simp [wordVal, results, Tryz.results26, go_sem]) rfl ⟨rfl, ?_⟩
    repeat (first | exact Below.refl _ _ | refine Below.alloc ?_ (by first | (simp; done) | (simp; omega)) _)
  by_cases h48 : ((s[p]'hp).toNat : Int) = 48
  · have hb48 : (((s[p]'hp).toNat : Int) == 48) = true := by rw [h48]; rfl
    by_cases h1' : 1 < R - p
    · rw [if_pos (Or.inr ⟨h48, h1'⟩)] at hV
      subst hV
      clear h48
      go_enter Tryz.func26, Tryz.ntmps26
      go_wp2_with (first | (go_at_call 52; refine (digit18 _ _).mono ?_; rintro e w2 ⟨rfl, rfl⟩) | (go_at_call 54; refine (letter17 _ _).mono ?_; rintro e w2 ⟨rfl, rfl⟩) | (go_at_call 53; refine (HR.out _).mono ?_; rintro e w2 ⟨rfl, rfl⟩))
      refine bodyPost_ret (v := wordVal (.error 3)) (by simp [wordVal, results, Tryz.results26, go_sem]) rfl ⟨rfl, ?_⟩
      repeat (first | exact Below.refl _ _ | refine Below.alloc ?_ (by first | (simp; done) | (simp; omega)) _)
    · rw [if_neg (by omega)] at hV
      subst hV
      clear h48
      go_enter Tryz.func26, Tryz.ntmps26
      go_wp2_with (first | (go_at_call 52; refine (digit18 _ _).mono ?_; rintro e w2 ⟨rfl, rfl⟩) | (go_at_call 54; refine (letter17 _ _).mono ?_; rintro e w2 ⟨rfl, rfl⟩) | (go_at_call 53; refine (HR.out _).mono ?_; rintro e w2 ⟨rfl, rfl⟩))
      refine bodyPost_ret (v := wordVal (.ok (⟨1, s.extract p R, p⟩, R))) (by simp [wordVal, results, Tryz.results26, go_sem]) rfl ⟨rfl, ?_⟩
      repeat (first | exact Below.refl _ _ | refine Below.alloc ?_ (by first | (simp; done) | (simp; omega)) _)
  · have hb48 : (((s[p]'hp).toNat : Int) == 48) = false := by rw [beq_eq_false_iff_ne]; exact h48
    rw [if_neg (by omega)] at hV
    subst hV
    clear h48
    go_enter Tryz.func26, Tryz.ntmps26
    go_wp2_with (first | (go_at_call 52; refine (digit18 _ _).mono ?_; rintro e w2 ⟨rfl, rfl⟩) | (go_at_call 54; refine (letter17 _ _).mono ?_; rintro e w2 ⟨rfl, rfl⟩) | (go_at_call 53; refine (HR.out _).mono ?_; rintro e w2 ⟨rfl, rfl⟩))
    refine bodyPost_ret (v := wordVal (.ok (⟨1, s.extract p R, p⟩, R))) (by simp [wordVal, results, Tryz.results26, go_sem]) rfl ⟨rfl, ?_⟩
    repeat (first | exact Below.refl _ _ | refine Below.alloc ?_ (by first | (simp; done) | (simp; omega)) _)

/-- Two new blocks stand as they were made behind a call that turned nothing of what was there. -/
theorem two_kept {w w2 : World} {a b : Array Value} {t : TypeId} (h : Below ((w.alloc (.cells a t)).alloc (.cells b t)).heap.size ((w.alloc (.cells a t)).alloc (.cells b t)) w2) :
    w2.heap[w.heap.size]? = some (.cells a t) ∧ w2.heap[w.heap.size + 1]? = some (.cells b t) ∧ Below w.heap.size w w2 := by
  have e1 : (w.alloc (.cells a t)).heap[w.heap.size]? = some (.cells a t) := (MapKept.heap_alloc w _).1
  have s1 : (w.alloc (.cells a t)).heap.size = w.heap.size + 1 := by simp
  have e2 : ((w.alloc (.cells a t)).alloc (.cells b t)).heap[w.heap.size + 1]? = some (.cells b t) := by
    have := (MapKept.heap_alloc (w.alloc (.cells a t)) (.cells b t)).1
    rwa [s1] at this
  have s2 : ((w.alloc (.cells a t)).alloc (.cells b t)).heap.size = w.heap.size + 1 + 1 := by simp
  refine ⟨?_, ?_, ?_⟩
  · rw [h.block _ (by rw [s2]; omega), Below.heap_alloc _ _ _ (by rw [s1]; omega), e1]
  · rw [h.block _ (by rw [s2]; omega), e2]
  · exact ((Below.refl _ _).alloc (Nat.le_refl _) _ |>.alloc (by rw [s1]; omega) _).trans (h.mono (by rw [s2]; omega))

set_option maxHeartbeats 1000000 in
set_option maxRecDepth 100000 in
theorem word_letter (s : ByteArray) (p : Nat) (hp : p < s.size) (hs : s.size ≤ 1500) (hd : digitZ ((s[p]'hp).toNat : Int) = false) (hL : letterZ ((s[p]'hp).toNat : Int) = true) (w : World) :
    Calls Tryz.prog 26 #[.string s, .int .i64 p] w fun e w' => e = .returned (wordVal (wordAt s p)) ∧ Below w.heap.size w w' := by
  have hb := bz_at s hp
  obtain ⟨V, hV⟩ : ∃ V, wordAt s p = V := ⟨_, rfl⟩
  rw [hV]
  unfold wordAt at hV
  rw [hb, if_neg (by rw [hd]; simp)] at hV
  obtain ⟨h1, h2, h3, h4⟩ := isRun_runTo s true (p := p) (by omega)
  have hrun := run_calls s p true (by omega) hs
  obtain ⟨R, hR⟩ : ∃ R, runTo s true p = R := ⟨_, rfl⟩
  rw [hR] at h1 h2 h3 h4 hrun
  rw [if_pos hL, hR] at hV
  dsimp only at hV
  have HR : Hid (∀ w, _) := hrun
  clear hrun hR h3 h4 hb
  by_cases h8 : 8 < R - p
  · rw [if_pos h8] at hV
    subst hV
    go_enter Tryz.func26, Tryz.ntmps26
    go_wp2_with (first | (go_at_call 52; refine (digit18 _ _).mono ?_; rintro e w2 ⟨rfl, rfl⟩) | (go_at_call 54; refine (letter17 _ _).mono ?_; rintro e w2 ⟨rfl, rfl⟩) | (go_at_call 53; refine (HR.out _).mono ?_; rintro e w2 ⟨rfl, rfl⟩))
    refine bodyPost_ret (v := wordVal (.error 4)) (by simp [wordVal, results, Tryz.results26, go_sem]) rfl ⟨rfl, ?_⟩
    repeat (first | exact Below.refl _ _ | refine Below.alloc ?_ (by first | (simp; done) | (simp; omega)) _)
  rw [if_neg h8] at hV
  go_enter Tryz.func26, Tryz.ntmps26
  go_wp2_with (first | (go_at_call 52; refine (digit18 _ _).mono ?_; rintro e w2 ⟨rfl, rfl⟩) | (go_at_call 54; refine (letter17 _ _).mono ?_; rintro e w2 ⟨rfl, rfl⟩) | (go_at_call 53; refine (HR.out _).mono ?_; rintro e w2 ⟨rfl, rfl⟩))
  refine (specKey_calls _ _).mono ?_
  rintro e w2 ⟨rfl, hbk⟩
  obtain ⟨eA, eB, hbw⟩ := two_kept hbk
  have a0 := cell_of_heap eA 0
  have a1 := cell_of_heap eA 1
  have a2 := cell_of_heap eA 2
  have b0 := cell_of_heap eB 0
  have b1 := cell_of_heap eB 1
  have b2 := cell_of_heap eB 2
  have fA0 := frozen_of_heap eA 0
  have fA1 := frozen_of_heap eA 1
  have fA2 := frozen_of_heap eA 2
  have fB0 := frozen_of_heap eB 0
  simp at a0 a1 a2 b0 b1 b2
  clear hbk eA eB
  cases hK : isKey (s.extract p R) with
  | true =>
    rw [hK, if_pos rfl] at hV
    subst hV
    go_wp2_with fail
    refine bodyPost_ret (v := wordVal (.ok (⟨3, s.extract p R, p⟩, R))) (by simp [wordVal, results, Tryz.results26, go_sem, a0, a1, a2]) rfl ⟨rfl, ?_⟩
    repeat (first | exact hbw | refine Below.setCell ?_ (by simp) _)
  | false =>
    rw [hK, if_neg (by simp)] at hV
    subst hV
    go_wp2_with fail
    refine bodyPost_ret (v := wordVal (.ok (⟨2, s.extract p R, p⟩, R))) (by simp [wordVal, results, Tryz.results26, go_sem, a0, a1, a2]) rfl ⟨rfl, ?_⟩
    repeat (first | exact hbw | refine Below.setCell ?_ (by simp) _)

set_option maxHeartbeats 1000000 in
set_option maxRecDepth 100000 in
theorem word_sign (s : ByteArray) (p : Nat) (hp : p < s.size) (hd : digitZ ((s[p]'hp).toNat : Int) = false) (hL : letterZ ((s[p]'hp).toNat : Int) = false) (hs : s.size ≤ 1500) (w : World) :
    Calls Tryz.prog 26 #[.string s, .int .i64 p] w fun e w' => e = .returned (wordVal (wordAt s p)) ∧ Below w.heap.size w w' := by
  have hb := bz_at s hp
  obtain ⟨V, hV⟩ : ∃ V, wordAt s p = V := ⟨_, rfl⟩
  rw [hV]
  unfold wordAt at hV
  rw [hb, if_neg (by rw [hd]; simp), if_neg (by rw [hL]; simp)] at hV
  dsimp only at hV
  clear hb
  go_enter Tryz.func26, Tryz.ntmps26
  go_wp2_with (first | (go_at_call 52; refine (digit18 _ _).mono ?_; rintro e w2 ⟨rfl, rfl⟩) | (go_at_call 54; refine (letter17 _ _).mono ?_; rintro e w2 ⟨rfl, rfl⟩))
  refine (sign_calls _ _).mono ?_
  rintro e w2 ⟨rfl, hbk⟩
  obtain ⟨eA, eB, hbw⟩ := two_kept hbk
  have a0 := cell_of_heap eA 0
  have a1 := cell_of_heap eA 1
  have a2 := cell_of_heap eA 2
  have b0 := cell_of_heap eB 0
  have b1 := cell_of_heap eB 1
  have b2 := cell_of_heap eB 2
  have fA0 := frozen_of_heap eA 0
  have fA1 := frozen_of_heap eA 1
  have fA2 := frozen_of_heap eA 2
  have fB1 := frozen_of_heap eB 1
  simp at a0 a1 a2 b0 b1 b2
  clear hbk eA eB
  have hgs := signOf_size (s.extract p s.size)
  generalize signOf (s.extract p s.size) = g at *
  by_cases hg : g.size = 0
  · rw [if_pos hg] at hV
    subst hV
    have hge : (g.toList == []) = true := by
      rw [ByteArray.toList_eq]
      have : g.data.toList = [] := List.eq_nil_of_length_eq_zero (by rw [Array.length_toList]; exact hg)
      rw [this]
      rfl
    go_wp2_with fail
    refine bodyPost_ret (v := wordVal (.error 2)) (by simp [wordVal, results, Tryz.results26, go_sem, a0, a1, a2]) rfl ⟨rfl, ?_⟩
    repeat (first | exact hbw | refine Below.setCell ?_ (by simp) _)
  · rw [if_neg hg] at hV
    subst hV
    have hge : (g.toList == []) = false := by
      rw [ByteArray.toList_eq]
      cases hl : g.data.toList with
      | nil =>
        have h0 : g.data.toList.length = 0 := by rw [hl]; rfl
        rw [Array.length_toList] at h0
        exact absurd h0 hg
      | cons x r => rfl
    go_wp2_with fail
    have q0 : (w2.setCell ⟨w.heap.size + 1, 1, none⟩ (.string g)).cell? ⟨w.heap.size, 0, none⟩ = some (.int .i64 0) := by simp [go_sem, a0]
    have q1 : (w2.setCell ⟨w.heap.size + 1, 1, none⟩ (.string g)).cell? ⟨w.heap.size, 1, none⟩ = some (.string ⟨#[]⟩) := by simp [go_sem, a1]
    have q2 : (w2.setCell ⟨w.heap.size + 1, 1, none⟩ (.string g)).cell? ⟨w.heap.size, 2, none⟩ = some (.int .i64 0) := by simp [go_sem, a2]
    have r0 : (w2.setCell ⟨w.heap.size + 1, 1, none⟩ (.string g)).cell? ⟨w.heap.size + 1, 0, none⟩ = some (.int .i64 4) := by simp [go_sem, b0]
    have r1 : (w2.setCell ⟨w.heap.size + 1, 1, none⟩ (.string g)).cell? ⟨w.heap.size + 1, 1, none⟩ = some (.string g) := by simp [go_sem, b1]
    have r2 : (w2.setCell ⟨w.heap.size + 1, 1, none⟩ (.string g)).cell? ⟨w.heap.size + 1, 2, none⟩ = some (.int .i64 p) := by simp [go_sem, b2]
    have g0 : (w2.setCell ⟨w.heap.size + 1, 1, none⟩ (.string g)).frozen? ⟨w.heap.size, 0, none⟩ = false := by simp [go_sem, fA0]
    have g1 : (w2.setCell ⟨w.heap.size + 1, 1, none⟩ (.string g)).frozen? ⟨w.heap.size, 1, none⟩ = false := by simp [go_sem, fA1]
    have g2 : (w2.setCell ⟨w.heap.size + 1, 1, none⟩ (.string g)).frozen? ⟨w.heap.size, 2, none⟩ = false := by simp [go_sem, fA2]
    have hb2 := hbw.setCell (p := ⟨w.heap.size + 1, 1, none⟩) (by simp) (.string g)
    clear a0 a1 a2 b0 b1 b2 fA0 fA1 fA2 fB1 hbw
    generalize w2.setCell ⟨w.heap.size + 1, 1, none⟩ (.string g) = W at *
    go_region
    all_goals
      go_wp2_with fail
      refine bodyPost_ret (v := wordVal (.ok (⟨4, g, p⟩, p + g.size))) (by simp [wordVal, results, Tryz.results26, go_sem, q0, q1, q2]) rfl ⟨rfl, ?_⟩
      repeat (first | exact hb2 | refine Below.drew ?_ | refine Below.setCell ?_ (by simp) _)

theorem word_calls (s : ByteArray) (p : Nat) (hp : p < s.size) (hs : s.size ≤ 1500) (w : World) :
    Calls Tryz.prog 26 #[.string s, .int .i64 p] w fun e w' => e = .returned (wordVal (wordAt s p)) ∧ Below w.heap.size w w' := by
  cases hd : digitZ ((s[p]'hp).toNat : Int) with
  | true => exact word_digit s p hp hs hd w
  | false =>
    cases hL : letterZ ((s[p]'hp).toNat : Int) with
    | true => exact word_letter s p hp hs hd hL w
    | false => exact word_sign s p hp hd hL hs w

end Go.Proofs.YtkdipppeljpgmaaGreatDoor
