/- The program's own word at the beginning of a rest: runs, copies, signs. -/
import Derived.Test.YthpoplpamkgocaaPureLex
import Derived.Test.YthpoplpamkgocaaSpecLex
import Derived.Test.YthpoplpamkgocaaShelf
namespace Go.Proofs.Ythpoplpamkgocaa
open Go.RowKit

theorem okb_false (x : Int) : okb false x = digitZ x := by simp [okb]

set_option maxRecDepth 100000 in
theorem digit_run (x : Int) (w : World) : Calls Try.prog 19 #[.int .i32 x] w fun e w' => e = .returned (.bool (okb false x)) ∧ w = w' := by
  rw [okb_false]
  exact digit20 x w

set_option maxRecDepth 100000 in
theorem part_run (x : Int) (w : World) : Calls Try.prog 29 #[.int .i32 x] w fun e w' => e = .returned (.bool (okb true x)) ∧ w = w' := by
  have e : okb true x = (letterZ x || digitZ x) := by simp [okb, Bool.or_comm]
  rw [e]
  cases hL : letterZ x with
  | true =>
    go_enter Try.func29, Try.ntmps29
    go_wp2_with (first | (go_at_call 21; refine (letter19 _ _).mono ?_; rintro e w2 ⟨rfl, rfl⟩) | (go_at_call 19; refine (digit20 _ _).mono ?_; rintro e w2 ⟨rfl, rfl⟩))
    go_ret
    exact ⟨rfl, rfl⟩
  | false =>
    go_enter Try.func29, Try.ntmps29
    go_wp2_with (first | (go_at_call 21; refine (letter19 _ _).mono ?_; rintro e w2 ⟨rfl, rfl⟩) | (go_at_call 19; refine (digit20 _ _).mono ?_; rintro e w2 ⟨rfl, rfl⟩))
    go_ret
    exact ⟨rfl, rfl⟩

set_option maxHeartbeats 1000000 in
set_option maxRecDepth 100000 in
theorem runDigits_calls (t : ByteArray) (hs : t.size ≤ 1500) (w : World) :
    Calls Try.prog 28 #[.string t, .func (.func 19) #[] #[]] w fun e w' => e = .returned (.int .i64 (runTo t false 0)) ∧ Below w.heap.size w w' := by
  obtain ⟨R, hR⟩ : ∃ R, runTo t false 0 = R := ⟨_, rfl⟩
  rw [hR]
  have HR : Hid (runTo t false 0 = R) := hR
  clear hR
  go_enter Try.func28, Try.ntmps28
  go_wp2_with fail
  go_loopg [] t.size (fun g wx => ∃ pos : Nat, wx.heap[w.heap.size]? = some (.stringIter t pos) ∧ Below w.heap.size w wx ∧ (∀ j, j < pos → okb false (bz t j) = true) ∧ t.size ≤ pos + g ∧ pos ≤ t.size)
  case atStart => exact ⟨0, World.iter_heap w t 0, (Below.refl _ w).alloc (Nat.le_refl _) _, fun j hj => by omega, by omega, by omega⟩
  case round =>
    obtain ⟨pos, hit, hbw, hall, hfu, hps⟩ := hrel
    have fin : (pos < t.size → okb false (bz t pos) = false) → Hid (R = pos) := fun h => by
      rw [← HR.out]
      exact (IsRun.eq ⟨Nat.zero_le _, hps, fun j _ h2 => hall j h2, h⟩).symm
    have step : okb false (bz t pos) = true → Hid (∀ j, j < pos + 1 → okb false (bz t j) = true) := fun h j hj => by
      by_cases e : j = pos
      · rw [e]
        exact h
      · exact hall j (by omega)
    clear hall HR
    by_cases hp : pos < t.size
    · obtain ⟨g, rfl⟩ : ∃ g, gk = g + 1 := ⟨gk - 1, by omega⟩
      by_cases ha : (t[pos]'hp).toNat < 128
      · have hnx : ∀ ty, (Instr.next (.pointer (some ⟨w.heap.size, 0, none⟩)) true ty).run Try.prog wr = _ := fun ty => Lib.run_next_ascii_at wr w.heap.size t pos ty hit hp ha
        have hit2 := Lib.iterAt_heap wr w.heap.size t pos (pos + 1) hit
        have hbw2 := Lib.below_iterAt hbw (k := w.heap.size) (Nat.le_refl _) t (pos + 1)
        obtain ⟨W, hWd⟩ : ∃ W, wr.iterAt w.heap.size t (pos + 1) = W := ⟨_, rfl⟩
        rw [hWd] at hnx hit2 hbw2
        have hit3 : Hid (W.heap[w.heap.size]? = some (.stringIter t (pos + 1))) := hit2
        clear hWd hit hbw hit2
        rw [bz_at t hp] at fin step
        generalize ((t[pos]'hp).toNat : Int) = x at *
        cases hk : okb false x with
        | true =>
          have HS := step hk
          clear fin step
          go_wp2_with (first | (go_at_call 19; refine (digit_run _ _).mono ?_; rintro e w2 ⟨rfl, rfl⟩))
          go_roundg g
          case measure => omega
          case rel => exact ⟨pos + 1, hit3.out, hbw2, HS.out, by omega, by omega⟩
        | false =>
          have HF := fin (fun _ => hk)
          clear fin step
          go_wp2_with (first | (go_at_call 19; refine (digit_run _ _).mono ?_; rintro e w2 ⟨rfl, rfl⟩))
          go_ret
          exact ⟨by rw [HF.out]; rfl, hbw2⟩
      · have hnx : ∀ ty, (Instr.next (.pointer (some ⟨w.heap.size, 0, none⟩)) true ty).run Try.prog wr = _ := fun ty => Lib.run_next_any_at wr w.heap.size t pos ty hit hp
        have hhi := (decode_high t pos hp (by omega)).1
        have hbw2 := Lib.below_iterAt hbw (k := w.heap.size) (Nat.le_refl _) t (pos + (Utf8.decode t pos).2)
        obtain ⟨X, hX⟩ : ∃ X, (Utf8.decode t pos).1 = X := ⟨_, rfl⟩
        rw [hX] at hnx hhi
        obtain ⟨W, hWd⟩ : ∃ W, wr.iterAt w.heap.size t (pos + (Utf8.decode t pos).2) = W := ⟨_, rfl⟩
        rw [hWd] at hnx hbw2
        clear hWd hit hbw hX
        have hk : okb false (X : Int) = false := by
          have h1 : letterZ (X : Int) = false := by simp [letterZ]; omega
          have h2 : digitZ (X : Int) = false := by simp [digitZ]; omega
          simp [okb, h1, h2]
        have HF := fin (fun _ => by
          rw [bz_at t hp]
          have h1 : letterZ ((t[pos]'hp).toNat : Int) = false := by simp [letterZ]; omega
          have h2 : digitZ ((t[pos]'hp).toNat : Int) = false := by simp [digitZ]; omega
          simp [okb, h1, h2])
        clear ha hhi fin step
        go_wp2_with (first | (go_at_call 19; refine (digit_run _ _).mono ?_; rintro e w2 ⟨rfl, rfl⟩))
        go_ret
        exact ⟨by rw [HF.out]; rfl, hbw2⟩
    · have hnx : ∀ ty, (Instr.next (.pointer (some ⟨w.heap.size, 0, none⟩)) true ty).run Try.prog wr = _ := fun ty => Lib.run_next_end_at wr w.heap.size t pos ty hit hp
      have HF := fin (fun h => absurd h hp)
      have hpe : pos = t.size := by omega
      have HP : Hid (pos = t.size) := hpe
      clear fin step hpe
      go_wp2_with fail
      go_ret
      exact ⟨by rw [HF.out, HP.out]; rfl, hbw⟩

set_option maxHeartbeats 1000000 in
set_option maxRecDepth 100000 in
theorem runParts_calls (t : ByteArray) (hs : t.size ≤ 1500) (w : World) :
    Calls Try.prog 28 #[.string t, .func (.func 29) #[] #[]] w fun e w' => e = .returned (.int .i64 (runTo t true 0)) ∧ Below w.heap.size w w' := by
  obtain ⟨R, hR⟩ : ∃ R, runTo t true 0 = R := ⟨_, rfl⟩
  rw [hR]
  have HR : Hid (runTo t true 0 = R) := hR
  clear hR
  go_enter Try.func28, Try.ntmps28
  go_wp2_with fail
  go_loopg [] t.size (fun g wx => ∃ pos : Nat, wx.heap[w.heap.size]? = some (.stringIter t pos) ∧ Below w.heap.size w wx ∧ (∀ j, j < pos → okb true (bz t j) = true) ∧ t.size ≤ pos + g ∧ pos ≤ t.size)
  case atStart => exact ⟨0, World.iter_heap w t 0, (Below.refl _ w).alloc (Nat.le_refl _) _, fun j hj => by omega, by omega, by omega⟩
  case round =>
    obtain ⟨pos, hit, hbw, hall, hfu, hps⟩ := hrel
    have fin : (pos < t.size → okb true (bz t pos) = false) → Hid (R = pos) := fun h => by
      rw [← HR.out]
      exact (IsRun.eq ⟨Nat.zero_le _, hps, fun j _ h2 => hall j h2, h⟩).symm
    have step : okb true (bz t pos) = true → Hid (∀ j, j < pos + 1 → okb true (bz t j) = true) := fun h j hj => by
      by_cases e : j = pos
      · rw [e]
        exact h
      · exact hall j (by omega)
    clear hall HR
    by_cases hp : pos < t.size
    · obtain ⟨g, rfl⟩ : ∃ g, gk = g + 1 := ⟨gk - 1, by omega⟩
      by_cases ha : (t[pos]'hp).toNat < 128
      · have hnx : ∀ ty, (Instr.next (.pointer (some ⟨w.heap.size, 0, none⟩)) true ty).run Try.prog wr = _ := fun ty => Lib.run_next_ascii_at wr w.heap.size t pos ty hit hp ha
        have hit2 := Lib.iterAt_heap wr w.heap.size t pos (pos + 1) hit
        have hbw2 := Lib.below_iterAt hbw (k := w.heap.size) (Nat.le_refl _) t (pos + 1)
        obtain ⟨W, hWd⟩ : ∃ W, wr.iterAt w.heap.size t (pos + 1) = W := ⟨_, rfl⟩
        rw [hWd] at hnx hit2 hbw2
        have hit3 : Hid (W.heap[w.heap.size]? = some (.stringIter t (pos + 1))) := hit2
        clear hWd hit hbw hit2
        rw [bz_at t hp] at fin step
        generalize ((t[pos]'hp).toNat : Int) = x at *
        cases hk : okb true x with
        | true =>
          have HS := step hk
          clear fin step
          go_wp2_with (first | (go_at_call 29; refine (part_run _ _).mono ?_; rintro e w2 ⟨rfl, rfl⟩))
          go_roundg g
          case measure => omega
          case rel => exact ⟨pos + 1, hit3.out, hbw2, HS.out, by omega, by omega⟩
        | false =>
          have HF := fin (fun _ => hk)
          clear fin step
          go_wp2_with (first | (go_at_call 29; refine (part_run _ _).mono ?_; rintro e w2 ⟨rfl, rfl⟩))
          go_ret
          exact ⟨by rw [HF.out]; rfl, hbw2⟩
      · have hnx : ∀ ty, (Instr.next (.pointer (some ⟨w.heap.size, 0, none⟩)) true ty).run Try.prog wr = _ := fun ty => Lib.run_next_any_at wr w.heap.size t pos ty hit hp
        have hhi := (decode_high t pos hp (by omega)).1
        have hbw2 := Lib.below_iterAt hbw (k := w.heap.size) (Nat.le_refl _) t (pos + (Utf8.decode t pos).2)
        obtain ⟨X, hX⟩ : ∃ X, (Utf8.decode t pos).1 = X := ⟨_, rfl⟩
        rw [hX] at hnx hhi
        obtain ⟨W, hWd⟩ : ∃ W, wr.iterAt w.heap.size t (pos + (Utf8.decode t pos).2) = W := ⟨_, rfl⟩
        rw [hWd] at hnx hbw2
        clear hWd hit hbw hX
        have hk : okb true (X : Int) = false := by
          have h1 : letterZ (X : Int) = false := by simp [letterZ]; omega
          have h2 : digitZ (X : Int) = false := by simp [digitZ]; omega
          simp [okb, h1, h2]
        have HF := fin (fun _ => by
          rw [bz_at t hp]
          have h1 : letterZ ((t[pos]'hp).toNat : Int) = false := by simp [letterZ]; omega
          have h2 : digitZ ((t[pos]'hp).toNat : Int) = false := by simp [digitZ]; omega
          simp [okb, h1, h2])
        clear ha hhi fin step
        go_wp2_with (first | (go_at_call 29; refine (part_run _ _).mono ?_; rintro e w2 ⟨rfl, rfl⟩))
        go_ret
        exact ⟨by rw [HF.out]; rfl, hbw2⟩
    · have hnx : ∀ ty, (Instr.next (.pointer (some ⟨w.heap.size, 0, none⟩)) true ty).run Try.prog wr = _ := fun ty => Lib.run_next_end_at wr w.heap.size t pos ty hit hp
      have HF := fin (fun h => absurd h hp)
      have hpe : pos = t.size := by omega
      have HP : Hid (pos = t.size) := hpe
      clear fin step hpe
      go_wp2_with fail
      go_ret
      exact ⟨by rw [HF.out, HP.out]; rfl, hbw⟩

set_option maxRecDepth 100000 in
theorem clone_calls (t : ByteArray) (hs : t.size ≤ 1500) (w : World) :
    Calls Try.prog 33 #[.string t] w fun e w' => e = .returned (.string t) ∧ Below w.heap.size w w' := by
  go_enter Try.func33, Try.ntmps33
  go_wp2_with fail
  refine (Try.stringslite_Clone t _ (by omega)).mono ?_
  rintro e w2 ⟨rfl, hb⟩
  go_wp2_with fail
  go_ret
  exact ⟨rfl, hb⟩

set_option maxRecDepth 100000 in
theorem wordOf_calls (k : Int) (t : ByteArray) (n : Nat) (hn : n ≤ t.size) (hs : t.size ≤ 1500) (w : World) :
    Calls Try.prog 24 #[.int .i64 k, .string t, .int .i64 n] w fun e w' => e = .returned (.agg #[.int .i64 k, .string (t.extract 0 n), .int .i64 0]) ∧ Below w.heap.size w w' := by
  go_enter Try.func24, Try.ntmps24
  go_wp2_with fail
  refine (clone_calls _ (by simp [ByteArray.size_extract]; omega) _).mono ?_
  rintro e w2 ⟨rfl, hb⟩
  have e1 : (w.alloc (.cells #[.int .i64 0, .string ⟨#[]⟩, .int .i64 0] 32)).heap[w.heap.size]? = some (.cells #[.int .i64 0, .string ⟨#[]⟩, .int .i64 0] 32) := (MapKept.heap_alloc w _).1
  have eA := (hb.block w.heap.size (by simp)).trans e1
  have hbw : Below w.heap.size w w2 := ((Below.refl _ _).alloc (Nat.le_refl _) _).trans (hb.mono (by simp))
  have a0 := cell_of_heap eA 0
  have a1 := cell_of_heap eA 1
  have a2 := cell_of_heap eA 2
  have z0 := frozen_of_heap eA 0
  have z1 := frozen_of_heap eA 1
  have z2 := frozen_of_heap eA 2
  simp at a0 a1 a2
  clear e1 eA hb
  go_wp2_with fail
  refine bodyPost_ret (v := .agg #[.int .i64 k, .string (t.extract 0 n), .int .i64 0]) (by simp [results, Try.results24, go_sem, a0, a1, a2]) rfl ⟨rfl, ?_⟩
  repeat (first | exact hbw | refine Below.setCell ?_ (by simp) _)

set_option maxRecDepth 100000 in
theorem prefix_calls (t g : ByteArray) (w : World) :
    Calls Try.prog 31 #[.string t, .string g] w fun e w' => e = .returned (.bool (signHit t g)) ∧ w = w' := by
  by_cases hge : g.size ≤ t.size
  · have e : signHit t g = ((t.extract 0 g.size).toList == g.toList) := by simp [signHit, hge]
    rw [e]
    go_enter Try.func31, Try.ntmps31
    go_wp2
    go_ret
    exact ⟨rfl, rfl⟩
  · have e : signHit t g = false := by simp [signHit, hge]
    rw [e]
    go_enter Try.func31, Try.ntmps31
    go_wp2
    go_ret
    exact ⟨rfl, rfl⟩
end Go.Proofs.Ythpoplpamkgocaa
