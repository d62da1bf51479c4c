/- The word with which a rest begins, as the program finds it, is the plain one. -/
import Derived.Test.YtkdipppeljpgmaaGreatDoorGrpMR3
import Derived.Test.YtkdipppeljpgmaaGreatDoorSpecWords
import Derived.Test.YtkdipppeljpgmaaGreatDoorGrpMR2
import Derived.Test.YtkdipppeljpgmaaGreatDoorNodeArgs
import Derived.Test.YtkdipppeljpgmaaGreatDoorProgPure
import Derived.Test.YtkdipppeljpgmaaGreatDoorKept
import Derived.Test.YtkdipppeljpgmaaGreatDoorCalm
import Derived.Test.YtkdipppeljpgmaaGreatDoorGrpMR0
import Derived.Test.YtkdipppeljpgmaaGreatDoorEffWalks
import Derived.Test.YtkdipppeljpgmaaGreatDoorOwnRow
import Derived.Deep.RegionWith
import Derived.BigQuiet
import Derived.Deep.CutRange
namespace Go.Proofs.YtkdipppeljpgmaaGreatDoor
open Go.RowKit

/-- The signs of one byte. -/
def isShort (n : Nat) : Bool := [40, 41, 44, 43, 45, 42, 61, 60, 124, 58, 59].contains n

set_option maxRecDepth 100000 in
theorem short_index : ∀ n : Nat, n < 128 → decide (0 ≤ Lib.indexByte [40, 41, 44, 43, 45, 42, 61, 60, 124, 58, 59] (n : Int).toNat.toUInt8) = isShort n := by
  decide

/-- A rest's first rune: its first byte, or something beyond ASCII where that byte is. -/
def FirstRune (t : ByteArray) (r : Nat) : Prop := ∃ h : 0 < t.size, ((t[0]'h).toNat < 128 ∧ r = (t[0]'h).toNat) ∨ (128 ≤ (t[0]'h).toNat ∧ 128 ≤ r)

set_option maxRecDepth 100000 in
theorem containsR_calls (r : Nat) (w : World) :
    Calls Tryz.prog 91 #[.string ⟨#[40, 41, 44, 43, 45, 42, 61, 60, 124, 58, 59]⟩, .int .i32 r] w fun e w' => e = .returned (.bool (decide (r < 128) && isShort r)) ∧ Below w.heap.size w w' := by
  by_cases h : r < 128
  · refine (Tryz.strings_ContainsRune_ascii _ (r : Int) w (by omega) (by omega)).mono ?_
    rintro e w' ⟨rfl, rfl⟩
    refine ⟨?_, Below.refl _ _⟩
    rw [short_index r h, decide_eq_true h]
    rfl
  · have e : (decide (r < 128) && isShort r) = false := by simp [h]
    rw [e]
    have hc := high_calls r (by omega)
    have HC : Hid (∀ w, _) := hc
    clear hc e
    go_enter Tryz.func91, Tryz.ntmps91
    go_wp2_with fail
    refine (HC.out _).mono ?_
    rintro e w2 ⟨rfl, hb⟩
    go_wp2_with fail
    go_ret
    exact ⟨rfl, hb⟩

theorem hit_one (t : ByteArray) (h : 0 < t.size) (c : UInt8) : signHit t ⟨#[c]⟩ = (t[0]'h == c) := by
  have h1 : (⟨#[c]⟩ : ByteArray).size = 1 := rfl
  have e : (t.extract 0 1).toList = [t[0]'h] := by
    rw [ByteArray.toList_eq, ByteArray.data_extract]
    have hd : 0 < t.data.toList.length := by rw [Array.length_toList]; exact h
    rw [Array.toList_extract]
    cases hl : t.data.toList with
    | nil => rw [hl] at hd; simp at hd
    | cons x r =>
      have hx : t[0]'h = x := by
        have : t.data.toList[0]'hd = x := by simp [hl]
        rw [← this]
        rfl
      simp [hx, List.extract]
  have e2 : (⟨#[c]⟩ : ByteArray).toList = [c] := by rw [ByteArray.toList_eq]
  unfold signHit
  rw [h1, e, e2]
  simp [show 1 ≤ t.size from h]

set_option maxRecDepth 100000 in
theorem short_of (b : UInt8) : ((([[40], [41], [44], [43], [45], [42], [61], [60], [124], [58], [59]] : List (List UInt8)).find? (fun g => g == [b])).getD []).length = if isShort b.toNat then 1 else 0 := by
  have h : ∀ n : Nat, n < 256 → ((([[40], [41], [44], [43], [45], [42], [61], [60], [124], [58], [59]] : List (List UInt8)).find? (fun g => g == [UInt8.ofNat n])).getD []).length = if isShort (UInt8.ofNat n).toNat then 1 else 0 := by decide
  have := h b.toNat b.toNat_lt
  simpa using this

theorem sign_short (t : ByteArray) (h : 0 < t.size) (hno : ∀ j, j < 3 → signHit t (signStrs.getD j ByteArray.empty) = false) : (signOf t).size = if isShort (t[0]'h).toNat then 1 else 0 := by
  have n0 := hno 0 (by omega)
  have n1 := hno 1 (by omega)
  have n2 := hno 2 (by omega)
  rw [← short_of]
  unfold signOf
  have e : signStrs = [signStrs.getD 0 ByteArray.empty, signStrs.getD 1 ByteArray.empty, signStrs.getD 2 ByteArray.empty] ++ ([[40], [41], [44], [43], [45], [42], [61], [60], [124], [58], [59]] : List (List UInt8)).map (fun l => ⟨l.toArray⟩) := rfl
  have hf : ∀ (l : List UInt8), (l.map fun c => ([c] : List UInt8)).find? (fun g => signHit t ⟨g.toArray⟩) = (l.map fun c => ([c] : List UInt8)).find? (fun g => g == [t[0]'h]) := by
    intro l
    induction l with
    | nil => rfl
    | cons c r ih =>
      have hc : signHit t ⟨([c] : List UInt8).toArray⟩ = (t[0]'h == c) := hit_one t h c
      have hc2 : (([c] : List UInt8) == [t[0]'h]) = (t[0]'h == c) := by
        rw [Bool.eq_iff_iff]
        simp
        exact eq_comm
      rw [List.map_cons, List.find?_cons, List.find?_cons, hc, hc2, ih]
  have hl : ([[40], [41], [44], [43], [45], [42], [61], [60], [124], [58], [59]] : List (List UInt8)) = ([40, 41, 44, 43, 45, 42, 61, 60, 124, 58, 59] : List UInt8).map fun c => [c] := rfl
  rw [e, List.find?_append]
  have hn : [signStrs.getD 0 ByteArray.empty, signStrs.getD 1 ByteArray.empty, signStrs.getD 2 ByteArray.empty].find? (signHit t) = none := by
    rw [List.find?_eq_none]
    intro x hx
    simp only [List.mem_cons, List.not_mem_nil, or_false] at hx
    rcases hx with rfl | rfl | rfl
    · rw [n0]; simp
    · rw [n1]; simp
    · rw [n2]; simp
  rw [hn, Option.none_or, List.find?_map]
  have hcomp : (signHit t ∘ fun l : List UInt8 => (⟨l.toArray⟩ : ByteArray)) = fun g => signHit t ⟨g.toArray⟩ := rfl
  rw [hcomp, hl, hf]
  cases hfind : (([40, 41, 44, 43, 45, 42, 61, 60, 124, 58, 59] : List UInt8).map fun c => ([c] : List UInt8)).find? (fun g => g == [t[0]'h]) with
  | none => rfl
  | some g => rfl

set_option maxHeartbeats 1000000 in
set_option maxRecDepth 100000 in
theorem signSize_calls (t : ByteArray) (r : Nat) (hr : FirstRune t r) (w : World) :
    Calls Tryz.prog 64 #[.string t, .int .i32 r] w fun e w' => e = .returned (.int .i64 (signOf t).size) ∧ Below w.heap.size w w' := by
  obtain ⟨h0, hr⟩ := hr
  obtain ⟨Z, hZ⟩ : ∃ Z, (signOf t).size = Z := ⟨_, rfl⟩
  rw [hZ]
  have HZ : Hid ((signOf t).size = Z) := hZ
  have Hr : Hid (((t[0]'h0).toNat < 128 ∧ r = (t[0]'h0).toNat) ∨ (128 ≤ (t[0]'h0).toNat ∧ 128 ≤ r)) := hr
  clear hZ hr
  go_enter Tryz.func64, Tryz.ntmps64
  go_wp2_with fail
  have hblk : (w.alloc (.cells #[.string ⟨#[45, 62]⟩, .string ⟨#[61, 62]⟩, .string ⟨#[58, 58]⟩] 9)).heap[w.heap.size]? = some (.cells #[.string ⟨#[45, 62]⟩, .string ⟨#[61, 62]⟩, .string ⟨#[58, 58]⟩] 9) := (MapKept.heap_alloc w _).1
  have hb1 : Below w.heap.size w (w.alloc (.cells #[.string ⟨#[45, 62]⟩, .string ⟨#[61, 62]⟩, .string ⟨#[58, 58]⟩] 9)) := (Below.refl _ _).alloc (Nat.le_refl _) _
  generalize w.alloc (.cells #[.string ⟨#[45, 62]⟩, .string ⟨#[61, 62]⟩, .string ⟨#[58, 58]⟩] 9) = W at *
  have hcell : ∀ k, k < 3 → W.cell? ⟨w.heap.size, k, none⟩ = some (.string (signStrs.getD k ByteArray.empty)) := by
    intro k hk
    rw [cell_of_heap hblk k]
    match k, hk with
    | 0, _ => rfl
    | 1, _ => rfl
    | 2, _ => rfl
  have hsz : ∀ k, k < 3 → (signStrs.getD k ByteArray.empty).size = 2 := by decide
  clear hblk
  go_loop [9] (fun i => ∃ k : Nat, i = .int .i64 k ∧ k ≤ 3 ∧ Hid (∀ j, j < k → signHit t (signStrs.getD j ByteArray.empty) = false)) (fun i => 3 - (intOf i).toNat)
  case atStart => exact ⟨0, rfl, by omega, fun j hj => by omega⟩
  case round =>
    obtain ⟨k, rfl, hk, HA⟩ := hrel
    by_cases hlt : k < 3
    · have c := hcell k hlt
      have hs2 := hsz k hlt
      obtain ⟨g, hg⟩ : ∃ g, signStrs.getD k ByteArray.empty = g := ⟨_, rfl⟩
      rw [hg] at c hs2
      have HG : Hid (signStrs.getD k ByteArray.empty = g) := hg
      clear hcell hsz hg
      cases hh : signHit t g with
      | true =>
        have HF : Hid (Z = 2) := by
          rw [← HZ.out, signOf_hit (by omega) HG.out hh HA.out, hs2]
          rfl
        have hs3 : Hid (g.size = 2) := hs2
        clear HA HG HZ Hr hs2
        go_wp2_with (first | (go_at_call 90; refine (prefix_calls _ _ _).mono ?_; rintro e w2 ⟨rfl, rfl⟩))
        go_ret
        exact ⟨by rw [HF.out, ← hs3.out]; rfl, hb1⟩
      | false =>
        have HS : Hid (∀ j, j < k + 1 → signHit t (signStrs.getD j ByteArray.empty) = false) := fun j hj => by
          by_cases e : j = k
          · rw [e, HG.out]
            exact hh
          · exact HA.out j (by omega)
        clear HA HG HZ Hr hs2
        go_wp2_with (first | (go_at_call 90; refine (prefix_calls _ _ _).mono ?_; rintro e w2 ⟨rfl, rfl⟩))
        exact ⟨⟨k + 1, by simp, by omega, HS⟩, by simp [intOf]; omega⟩
    · have hk3 : k = 3 := by omega
      have hz := sign_short t h0 (hk3 ▸ HA.out)
      rw [HZ.out] at hz
      cases hc : (decide (r < 128) && isShort r) with
      | true =>
        have HF : Hid (Z = 1) := by
          show Z = 1
          rw [hz]
          simp at hc
          rcases Hr.out with ⟨_, e⟩ | ⟨_, e⟩
          · rw [← e, if_pos hc.2]
          · omega
        have hcc := containsR_calls r
        rw [hc] at hcc
        have HC : Hid (∀ w, _) := hcc
        clear hcc hz HZ Hr HA hc hcell hsz
        go_wp2_with fail
        refine (HC.out _).mono ?_
        rintro e w2 ⟨rfl, hb2⟩
        go_wp2_with fail
        go_ret
        exact ⟨by rw [HF.out]; rfl, hb1.trans (hb2.mono hb1.size)⟩
      | false =>
        have HF : Hid (Z = 0) := by
          show Z = 0
          rw [hz]
          rcases Hr.out with ⟨h1, e⟩ | ⟨h1, e⟩
          · rw [← e]
            simp at hc
            rw [if_neg (by rw [hc (by omega)]; simp)]
          · have : ∀ n, 128 ≤ n → isShort n = false := by
              intro n hn
              simp [isShort]
              omega
            rw [if_neg (by rw [this _ h1]; simp)]
        have hcc := containsR_calls r
        rw [hc] at hcc
        have HC : Hid (∀ w, _) := hcc
        clear hcc hz HZ Hr HA hc hcell hsz
        go_wp2_with fail
        refine (HC.out _).mono ?_
        rintro e w2 ⟨rfl, hb2⟩
        go_wp2_with fail
        go_ret
        exact ⟨by rw [HF.out]; rfl, hb1.trans (hb2.mono hb1.size)⟩

/-- What the first word of a rest is told by: its place is not told yet. -/
def restVal : Except Int (Wd × Nat) → Value
  | .error c => .tuple #[.agg #[.int .i64 0, .string ⟨#[]⟩, .int .i64 0], .int .i64 c]
  | .ok (d, _) => .tuple #[.agg #[.int .i64 d.kind, .string d.text, .int .i64 0], .int .i64 0]

/-- A sign with which a text begins is its beginning. -/
theorem signOf_fit (t : ByteArray) : (signOf t).size ≤ t.size ∧ t.extract 0 (signOf t).size = signOf t := by
  unfold signOf
  cases h : signStrs.find? (signHit t) with
  | none =>
    refine ⟨Nat.zero_le _, ?_⟩
    show t.extract 0 0 = ByteArray.empty
    simp
  | some g =>
    have hh := List.find?_some h
    simp only [signHit, Bool.and_eq_true, decide_eq_true_eq, beq_iff_eq] at hh
    refine ⟨hh.1, ?_⟩
    show t.extract 0 g.size = g
    have := hh.2
    rw [ByteArray.toList_eq, ByteArray.toList_eq] at this
    exact WideShapes.bytes_inj this

set_option maxHeartbeats 1000000 in
set_option maxRecDepth 100000 in
theorem number_calls (t : ByteArray) (hs : t.size ≤ 1500) (h0 : 0 < t.size) (hd : digitZ ((t[0]'h0).toNat : Int) = true) (w : World) :
    Calls Tryz.prog 61 #[.string t, .int .i32 ((t[0]'h0).toNat : Int)] w fun e w' => e = .returned (restVal (wordAt t 0)) ∧ Below w.heap.size w w' := by
  obtain ⟨V, hV⟩ : ∃ V, wordAt t 0 = V := ⟨_, rfl⟩
  rw [hV]
  unfold wordAt at hV
  rw [bz_at t h0, if_pos hd] at hV
  dsimp only at hV
  obtain ⟨h1, h2, h3, h4⟩ := isRun_runTo t false (p := 0) (by omega)
  have hrun := runDigits_calls t hs
  obtain ⟨R, hR⟩ : ∃ R, runTo t false 0 = R := ⟨_, rfl⟩
  rw [hR] at h1 h2 h3 h4 hrun hV
  have HR : Hid (∀ w, _) := hrun
  clear hrun hR h3 h4
  generalize ((t[0]'h0).toNat : Int) = x at *
  by_cases h9 : 9 < R
  · rw [if_pos (Or.inl (by omega))] at hV
    subst hV
    go_enter Tryz.func61, Tryz.ntmps61
    go_wp2_with fail
    refine (HR.out _).mono ?_
    rintro e w2 ⟨rfl, hb⟩
    obtain ⟨eA, hbw⟩ := one_kept hb
    clear hb
    have a0 := cell_of_heap eA 0
    have a1 := cell_of_heap eA 1
    have a2 := cell_of_heap eA 2
    have z0 := frozen_of_heap eA 0
    have z1 := frozen_of_heap eA 1
    have z2 := frozen_of_heap eA 2
    simp at a0 a1 a2
    clear eA
    go_wp2_with fail
    refine bodyPost_ret (v := restVal (.error 3)) (by simp [restVal, results, Tryz.results61, go_sem, a0, a1, a2]) rfl ⟨rfl, ?_⟩
    repeat (first | exact hbw | refine Below.setCell ?_ (by simp) _)
  by_cases h1' : 1 < R
  · by_cases h48 : x = 48
    · have hb48 : (x == 48) = true := by rw [h48]; rfl
      rw [if_pos (Or.inr ⟨h48, by omega⟩)] at hV
      subst hV
      clear h48 hd
      go_enter Tryz.func61, Tryz.ntmps61
      go_wp2_with fail
      refine (HR.out _).mono ?_
      rintro e w2 ⟨rfl, hb⟩
      obtain ⟨eA, hbw⟩ := one_kept hb
      clear hb
      have a0 := cell_of_heap eA 0
      have a1 := cell_of_heap eA 1
      have a2 := cell_of_heap eA 2
      have z0 := frozen_of_heap eA 0
      have z1 := frozen_of_heap eA 1
      have z2 := frozen_of_heap eA 2
      simp at a0 a1 a2
      clear eA
      go_wp2_with fail
      refine bodyPost_ret (v := restVal (.error 3)) (by simp [restVal, results, Tryz.results61, go_sem, a0, a1, a2]) rfl ⟨rfl, ?_⟩
      repeat (first | exact hbw | refine Below.setCell ?_ (by simp) _)
    · have hb48 : (x == 48) = false := by rw [beq_eq_false_iff_ne]; exact h48
      rw [if_neg (by omega)] at hV
      subst hV
      clear h48 hd
      go_enter Tryz.func61, Tryz.ntmps61
      go_wp2_with fail
      refine (HR.out _).mono ?_
      rintro e w2 ⟨rfl, hb⟩
      obtain ⟨eA, hbw⟩ := one_kept hb
      clear hb
      go_wp2_with fail
      refine (wordOf_calls _ _ _ h2 hs _).mono ?_
      rintro e w3 ⟨rfl, hb3⟩
      replace eA := (hb3.block w.heap.size (Array.getElem?_eq_some_iff.1 eA).1).trans eA
      replace hbw := hbw.trans (hb3.mono hbw.size)
      clear hb3
      have a0 := cell_of_heap eA 0
      have a1 := cell_of_heap eA 1
      have a2 := cell_of_heap eA 2
      have z0 := frozen_of_heap eA 0
      have z1 := frozen_of_heap eA 1
      have z2 := frozen_of_heap eA 2
      simp at a0 a1 a2
      clear eA
      go_wp2_with fail
      refine bodyPost_ret (v := restVal (.ok (⟨1, t.extract 0 R, 0⟩, R))) (by simp [restVal, results, Tryz.results61, go_sem, a0, a1, a2]) rfl ⟨rfl, ?_⟩
      repeat (first | exact hbw | refine Below.setCell ?_ (by simp) _)
  · rw [if_neg (by omega)] at hV
    subst hV
    clear hd
    go_enter Tryz.func61, Tryz.ntmps61
    go_wp2_with fail
    refine (HR.out _).mono ?_
    rintro e w2 ⟨rfl, hb⟩
    obtain ⟨eA, hbw⟩ := one_kept hb
    clear hb
    go_wp2_with fail
    refine (wordOf_calls _ _ _ h2 hs _).mono ?_
    rintro e w3 ⟨rfl, hb3⟩
    replace eA := (hb3.block w.heap.size (Array.getElem?_eq_some_iff.1 eA).1).trans eA
    replace hbw := hbw.trans (hb3.mono hbw.size)
    clear hb3
    have a0 := cell_of_heap eA 0
    have a1 := cell_of_heap eA 1
    have a2 := cell_of_heap eA 2
    have z0 := frozen_of_heap eA 0
    have z1 := frozen_of_heap eA 1
    have z2 := frozen_of_heap eA 2
    simp at a0 a1 a2
    clear eA
    go_wp2_with fail
    refine bodyPost_ret (v := restVal (.ok (⟨1, t.extract 0 R, 0⟩, R))) (by simp [restVal, results, Tryz.results61, go_sem, a0, a1, a2]) rfl ⟨rfl, ?_⟩
    repeat (first | exact hbw | refine Below.setCell ?_ (by simp) _)

set_option maxHeartbeats 1000000 in
set_option maxRecDepth 100000 in
theorem nameAt_calls (t : ByteArray) (hs : t.size ≤ 1500) (h0 : 0 < t.size) (hd : digitZ ((t[0]'h0).toNat : Int) = false) (hL : letterZ ((t[0]'h0).toNat : Int) = true) (w : World) :
    Calls Tryz.prog 63 #[.string t] w fun e w' => e = .returned (restVal (wordAt t 0)) ∧ Below w.heap.size w w' := by
  obtain ⟨V, hV⟩ : ∃ V, wordAt t 0 = V := ⟨_, rfl⟩
  rw [hV]
  unfold wordAt at hV
  rw [bz_at t h0, if_neg (by rw [hd]; simp), if_pos hL] at hV
  dsimp only at hV
  obtain ⟨h1, h2, h3, h4⟩ := isRun_runTo t true (p := 0) (by omega)
  have hrun := runParts_calls t hs
  obtain ⟨R, hR⟩ : ∃ R, runTo t true 0 = R := ⟨_, rfl⟩
  rw [hR] at h1 h2 h3 h4 hrun hV
  have HR : Hid (∀ w, _) := hrun
  clear hrun hR h3 h4 hd hL
  by_cases h8 : 8 < R
  · rw [if_pos (by omega)] at hV
    subst hV
    go_enter Tryz.func63, Tryz.ntmps63
    go_wp2_with fail
    refine (HR.out _).mono ?_
    rintro e w2 ⟨rfl, hb⟩
    obtain ⟨eA, hbw⟩ := one_kept hb
    clear hb
    have a0 := cell_of_heap eA 0
    have a1 := cell_of_heap eA 1
    have a2 := cell_of_heap eA 2
    have z0 := frozen_of_heap eA 0
    have z1 := frozen_of_heap eA 1
    have z2 := frozen_of_heap eA 2
    simp at a0 a1 a2
    clear eA
    go_wp2_with fail
    refine bodyPost_ret (v := restVal (.error 4)) (by simp [restVal, results, Tryz.results63, go_sem, a0, a1, a2]) rfl ⟨rfl, ?_⟩
    repeat (first | exact hbw | refine Below.setCell ?_ (by simp) _)
  rw [if_neg (by omega)] at hV
  go_enter Tryz.func63, Tryz.ntmps63
  go_wp2_with fail
  refine (HR.out _).mono ?_
  rintro e w2 ⟨rfl, hb⟩
  obtain ⟨eA, hbw⟩ := one_kept hb
  clear hb
  have hsx : (t.extract 0 R).size ≤ maxLen := by
    rw [ByteArray.size_extract]
    unfold maxLen
    omega
  go_wp2_with fail
  refine (implKey_calls _ hsx _).mono ?_
  rintro e w3 ⟨rfl, hb3⟩
  replace eA := (hb3.block w.heap.size (Array.getElem?_eq_some_iff.1 eA).1).trans eA
  replace hbw := hbw.trans (hb3.mono hbw.size)
  clear hb3 hsx
  cases hK : isKey (t.extract 0 R) with
  | true =>
    rw [hK, if_pos rfl] at hV
    subst hV
    go_wp2_with fail
    refine (wordOf_calls _ _ _ h2 hs _).mono ?_
    rintro e w4 ⟨rfl, hb4⟩
    replace eA := (hb4.block w.heap.size (Array.getElem?_eq_some_iff.1 eA).1).trans eA
    replace hbw := hbw.trans (hb4.mono hbw.size)
    clear hb4
    have a0 := cell_of_heap eA 0
    have a1 := cell_of_heap eA 1
    have a2 := cell_of_heap eA 2
    have z0 := frozen_of_heap eA 0
    have z1 := frozen_of_heap eA 1
    have z2 := frozen_of_heap eA 2
    simp at a0 a1 a2
    clear eA
    go_wp2_with fail
    refine bodyPost_ret (v := restVal (.ok (⟨3, t.extract 0 R, 0⟩, R))) (by simp [restVal, results, Tryz.results63, go_sem, a0, a1, a2]) rfl ⟨rfl, ?_⟩
    repeat (first | exact hbw | refine Below.setCell ?_ (by simp) _)
  | false =>
    rw [hK, if_neg (by simp)] at hV
    subst hV
    go_wp2_with fail
    refine (wordOf_calls _ _ _ h2 hs _).mono ?_
    rintro e w4 ⟨rfl, hb4⟩
    replace eA := (hb4.block w.heap.size (Array.getElem?_eq_some_iff.1 eA).1).trans eA
    replace hbw := hbw.trans (hb4.mono hbw.size)
    clear hb4
    have a0 := cell_of_heap eA 0
    have a1 := cell_of_heap eA 1
    have a2 := cell_of_heap eA 2
    have z0 := frozen_of_heap eA 0
    have z1 := frozen_of_heap eA 1
    have z2 := frozen_of_heap eA 2
    simp at a0 a1 a2
    clear eA
    go_wp2_with fail
    refine bodyPost_ret (v := restVal (.ok (⟨2, t.extract 0 R, 0⟩, R))) (by simp [restVal, results, Tryz.results63, go_sem, a0, a1, a2]) rfl ⟨rfl, ?_⟩
    repeat (first | exact hbw | refine Below.setCell ?_ (by simp) _)

set_option maxHeartbeats 1000000 in
set_option maxRecDepth 100000 in
theorem first_calls (t : ByteArray) (r : Nat) (hs : t.size ≤ 1500) (hr : FirstRune t r) (w : World) :
    Calls Tryz.prog 38 #[.string t, .int .i32 r] w fun e w' => e = .returned (restVal (wordAt t 0)) ∧ Below w.heap.size w w' := by
  have hr' := hr
  obtain ⟨h0, hr⟩ := hr
  cases hd : digitZ (r : Int) with
  | true =>
    have e : r = (t[0]'h0).toNat := by
      rcases hr with ⟨_, e⟩ | ⟨_, e⟩
      · exact e
      · have : digitZ (r : Int) = false := by simp [digitZ]; omega
        rw [this] at hd
        cases hd
    have hn := number_calls t hs h0 (by rw [← e]; exact hd)
    rw [← e] at hn
    have HR : Hid (∀ w, _) := hn
    clear hn hr hr' e
    generalize wordAt t 0 = V at *
    go_enter Tryz.func38, Tryz.ntmps38
    go_wp2_with (first | (go_at_call 60; refine (digit20 _ _).mono ?_; rintro e w2 ⟨rfl, rfl⟩))
    refine (HR.out _).mono ?_
    rintro e w2 ⟨rfl, hb⟩
    obtain ⟨eA, hbw⟩ := one_kept hb
    clear hb
    have a0 := cell_of_heap eA 0
    have a1 := cell_of_heap eA 1
    have a2 := cell_of_heap eA 2
    have z0 := frozen_of_heap eA 0
    have z1 := frozen_of_heap eA 1
    have z2 := frozen_of_heap eA 2
    simp at a0 a1 a2
    clear eA
    cases V with
    | error c =>
      simp only [restVal]
      go_wp2_with fail
      refine bodyPost_ret (v := restVal (.error c)) (by simp [restVal, results, Tryz.results38, go_sem, a0, a1, a2]) rfl ⟨rfl, ?_⟩
      repeat (first | exact hbw | refine Below.setCell ?_ (by simp) _)
    | ok de =>
      obtain ⟨d, e⟩ := de
      simp only [restVal]
      go_wp2_with fail
      refine bodyPost_ret (v := restVal (.ok (d, e))) (by simp [restVal, results, Tryz.results38, go_sem, a0, a1, a2]) rfl ⟨rfl, ?_⟩
      repeat (first | exact hbw | refine Below.setCell ?_ (by simp) _)
  | false =>
    have hdb : digitZ ((t[0]'h0).toNat : Int) = false := by
      rcases hr with ⟨_, e⟩ | ⟨e, _⟩
      · rw [← e]; exact hd
      · simp [digitZ]; omega
    cases hL : letterZ (r : Int) with
    | true =>
      have e : r = (t[0]'h0).toNat := by
        rcases hr with ⟨_, e⟩ | ⟨_, e⟩
        · exact e
        · have : letterZ (r : Int) = false := by simp [letterZ]; omega
          rw [this] at hL
          cases hL
      have hn := nameAt_calls t hs h0 hdb (by rw [← e]; exact hL)
      have HR : Hid (∀ w, _) := hn
      clear hn hr hr' hdb e
      generalize wordAt t 0 = V at *
      go_enter Tryz.func38, Tryz.ntmps38
      go_wp2_with (first | (go_at_call 60; refine (digit20 _ _).mono ?_; rintro e w2 ⟨rfl, rfl⟩) | (go_at_call 62; refine (letter19 _ _).mono ?_; rintro e w2 ⟨rfl, rfl⟩))
      refine (HR.out _).mono ?_
      rintro e w2 ⟨rfl, hb⟩
      obtain ⟨eA, hbw⟩ := one_kept hb
      clear hb
      have a0 := cell_of_heap eA 0
      have a1 := cell_of_heap eA 1
      have a2 := cell_of_heap eA 2
      have z0 := frozen_of_heap eA 0
      have z1 := frozen_of_heap eA 1
      have z2 := frozen_of_heap eA 2
      simp at a0 a1 a2
      clear eA
      cases V with
      | error c =>
        simp only [restVal]
        go_wp2_with fail
        refine bodyPost_ret (v := restVal (.error c)) (by simp [restVal, results, Tryz.results38, go_sem, a0, a1, a2]) rfl ⟨rfl, ?_⟩
        repeat (first | exact hbw | refine Below.setCell ?_ (by simp) _)
      | ok de =>
        obtain ⟨d, e⟩ := de
        simp only [restVal]
        go_wp2_with fail
        refine bodyPost_ret (v := restVal (.ok (d, e))) (by simp [restVal, results, Tryz.results38, go_sem, a0, a1, a2]) rfl ⟨rfl, ?_⟩
        repeat (first | exact hbw | refine Below.setCell ?_ (by simp) _)
    | false =>
      have hLb : letterZ ((t[0]'h0).toNat : Int) = false := by
        rcases hr with ⟨_, e⟩ | ⟨e, _⟩
        · rw [← e]; exact hL
        · simp [letterZ]; omega
      have hn := signSize_calls t r hr'
      obtain ⟨V, hV⟩ : ∃ V, wordAt t 0 = V := ⟨_, rfl⟩
      rw [hV]
      unfold wordAt at hV
      rw [bz_at t h0, if_neg (by rw [hdb]; simp), if_neg (by rw [hLb]; simp)] at hV
      dsimp only at hV
      have hext : t.extract 0 t.size = t := by simp
      rw [hext] at hV
      have hfit := signOf_fit t
      have hgs := signOf_size t
      generalize signOf t = g at *
      have HR : Hid (∀ w, _) := hn
      have HF : Hid (g.size ≤ t.size ∧ t.extract 0 g.size = g) := hfit
      clear hn hr hr' hdb hLb hfit
      go_enter Tryz.func38, Tryz.ntmps38
      go_wp2_with (first | (go_at_call 60; refine (digit20 _ _).mono ?_; rintro e w2 ⟨rfl, rfl⟩) | (go_at_call 62; refine (letter19 _ _).mono ?_; rintro e w2 ⟨rfl, rfl⟩))
      refine (HR.out _).mono ?_
      rintro e w2 ⟨rfl, hb⟩
      obtain ⟨eA, hbw⟩ := one_kept hb
      clear hb
      by_cases hg : g.size = 0
      · rw [if_pos hg] at hV
        subst hV
        have hgb : ((g.size : Int) == 0) = true := by rw [hg]; rfl
        clear hg
        have a0 := cell_of_heap eA 0
        have a1 := cell_of_heap eA 1
        have a2 := cell_of_heap eA 2
        have z0 := frozen_of_heap eA 0
        have z1 := frozen_of_heap eA 1
        have z2 := frozen_of_heap eA 2
        simp at a0 a1 a2
        clear eA
        go_wp2_with fail
        refine bodyPost_ret (v := restVal (.error 2)) (by simp [restVal, results, Tryz.results38, go_sem, a0, a1, a2]) rfl ⟨rfl, ?_⟩
        repeat (first | exact hbw | refine Below.setCell ?_ (by simp) _)
      · rw [if_neg hg] at hV
        subst hV
        have hgb : ((g.size : Int) == 0) = false := by rw [beq_eq_false_iff_ne]; omega
        clear hg
        go_wp2_with fail
        refine (wordOf_calls _ _ _ HF.out.1 hs _).mono ?_
        rintro e w3 ⟨rfl, hb3⟩
        replace eA := (hb3.block w.heap.size (Array.getElem?_eq_some_iff.1 eA).1).trans eA
        replace hbw := hbw.trans (hb3.mono hbw.size)
        rw [HF.out.2]
        clear hb3
        have a0 := cell_of_heap eA 0
        have a1 := cell_of_heap eA 1
        have a2 := cell_of_heap eA 2
        have z0 := frozen_of_heap eA 0
        have z1 := frozen_of_heap eA 1
        have z2 := frozen_of_heap eA 2
        simp at a0 a1 a2
        clear eA
        go_wp2_with fail
        refine bodyPost_ret (v := restVal (.ok (⟨4, g, 0⟩, 0 + g.size))) (by simp [restVal, results, Tryz.results38, go_sem, a0, a1, a2]) rfl ⟨rfl, ?_⟩
        repeat (first | exact hbw | refine Below.setCell ?_ (by simp) _)
end Go.Proofs.YtkdipppeljpgmaaGreatDoor

/- The word at a place of a text is the first word of the rest from there on; it is ASCII throughout. -/
namespace Go.Proofs.YtkdipppeljpgmaaGreatDoor
open Go.RowKit

theorem rest_size {s : ByteArray} {p : Nat} : (s.extract p s.size).size = s.size - p := by
  rw [ByteArray.size_extract]
  omega

theorem bz_rest {s : ByteArray} {p j : Nat} : bz (s.extract p s.size) j = bz s (p + j) := by
  unfold bz
  by_cases h : p + j < s.size
  · rw [dif_pos h, dif_pos (by rw [rest_size]; omega), ByteArray.getElem_extract]
  · rw [dif_neg h, dif_neg (by rw [rest_size]; omega)]

theorem run_rest {s : ByteArray} {l : Bool} {p : Nat} (hp : p ≤ s.size) : p + runTo (s.extract p s.size) l 0 = runTo s l p := by
  obtain ⟨h1, h2, h3, h4⟩ := isRun_runTo (s.extract p s.size) l (p := 0) (by omega)
  refine IsRun.eq ⟨by omega, by rw [rest_size] at h2; omega, fun j hj1 hj2 => ?_, fun h => ?_⟩
  · have := h3 (j - p) (by omega) (by omega)
    rw [bz_rest, show p + (j - p) = j by omega] at this
    exact this
  · have := h4 (by rw [rest_size]; omega)
    rwa [bz_rest] at this

theorem cut_rest {s : ByteArray} {p e : Nat} (h : p + e ≤ s.size) : (s.extract p s.size).extract 0 e = s.extract p (p + e) := by
  rw [ByteArray.extract_extract, Nat.add_zero, Nat.min_eq_left h]

/-- A word without its place. -/
def unplaced (p : Nat) : Except Int (Wd × Nat) → Except Int (Wd × Nat)
  | .error c => .error c
  | .ok (d, e) => .ok (⟨d.kind, d.text, 0⟩, e - p)

theorem wordAt_rest {s : ByteArray} {p : Nat} (hp : p < s.size) : wordAt (s.extract p s.size) 0 = unplaced p (wordAt s p) := by
  unfold wordAt
  have hb : bz (s.extract p s.size) 0 = bz s p := by rw [bz_rest, Nat.add_zero]
  have hself : (s.extract p s.size).extract 0 (s.extract p s.size).size = s.extract p s.size := by
    rw [rest_size, cut_rest (by omega), show p + (s.size - p) = s.size by omega]
  rw [hb, hself]
  by_cases hd : digitZ (bz s p) = true
  · have hr := run_rest (s := s) (l := false) (p := p) (by omega)
    obtain ⟨h1, h2, _, _⟩ := isRun_runTo s false (p := p) (by omega)
    rw [if_pos hd, if_pos hd]
    dsimp only
    have e : runTo (s.extract p s.size) false 0 = runTo s false p - p := by omega
    rw [e, Nat.sub_zero]
    split
    · rfl
    · show _ = Except.ok _
      rw [cut_rest (by omega), show p + (runTo s false p - p) = runTo s false p by omega]
  · rw [if_neg hd, if_neg hd]
    by_cases hL : letterZ (bz s p) = true
    · have hr := run_rest (s := s) (l := true) (p := p) (by omega)
      obtain ⟨h1, h2, _, _⟩ := isRun_runTo s true (p := p) (by omega)
      rw [if_pos hL, if_pos hL]
      dsimp only
      have e : runTo (s.extract p s.size) true 0 = runTo s true p - p := by omega
      rw [e, Nat.sub_zero]
      split
      · rfl
      · show _ = Except.ok _
        rw [cut_rest (by omega), show p + (runTo s true p - p) = runTo s true p by omega]
    · rw [if_neg hL, if_neg hL]
      dsimp only
      split
      · rfl
      · show _ = Except.ok _
        rw [show p + (signOf (s.extract p s.size)).size - p = 0 + (signOf (s.extract p s.size)).size by omega]

theorem restVal_unplaced (p : Nat) : ∀ x : Except Int (Wd × Nat), restVal (unplaced p x) = restVal x
  | .error _ => rfl
  | .ok (_, _) => rfl

theorem wordAt_text {s : ByteArray} {p : Nat} {d : Wd} {e : Nat} (hp : p < s.size) (h : wordAt s p = .ok (d, e)) : e = p + d.text.size ∧ d.at_ = p ∧ e ≤ s.size := by
  unfold wordAt at h
  by_cases hd : digitZ (bz s p) = true
  · obtain ⟨h1, h2, _, _⟩ := isRun_runTo s false (p := p) (by omega)
    rw [if_pos hd] at h
    dsimp only at h
    split at h
    · cases h
    · cases h
      refine ⟨?_, rfl, h2⟩
      rw [ByteArray.size_extract]
      omega
  · rw [if_neg hd] at h
    by_cases hL : letterZ (bz s p) = true
    · obtain ⟨h1, h2, _, _⟩ := isRun_runTo s true (p := p) (by omega)
      rw [if_pos hL] at h
      dsimp only at h
      split at h
      · cases h
      · cases h
        refine ⟨?_, rfl, h2⟩
        rw [ByteArray.size_extract]
        omega
    · rw [if_neg hL] at h
      dsimp only at h
      have hf := (signOf_fit (s.extract p s.size)).1
      rw [rest_size] at hf
      split at h
      · cases h
      · cases h
        exact ⟨rfl, rfl, by omega⟩

theorem okb_ascii {l : Bool} {x : Int} (h : okb l x = true) : x < 128 := by
  cases l <;> simp [okb, digitZ, letterZ] at h <;> omega

theorem sign_ascii : ∀ x ∈ signStrs, ∀ i, i < 2 → ∀ h : i < x.size, (x[i]'h).toNat < 128 := by decide

theorem at_eq {t : ByteArray} {a b : Nat} (h : a = b) (ha : a < t.size) (hb : b < t.size) : t[a]'ha = t[b]'hb := by
  subst h
  rfl

theorem wordAt_ascii {s : ByteArray} {p : Nat} {d : Wd} {e : Nat} (hp : p < s.size) (h : wordAt s p = .ok (d, e)) : ∀ j, p ≤ j → j < e → bz s j < 128 := by
  unfold wordAt at h
  by_cases hd : digitZ (bz s p) = true
  · obtain ⟨h1, h2, h3, _⟩ := isRun_runTo s false (p := p) (by omega)
    rw [if_pos hd] at h
    dsimp only at h
    split at h
    · cases h
    · cases h
      exact fun j hj1 hj2 => okb_ascii (h3 j hj1 hj2)
  · rw [if_neg hd] at h
    by_cases hL : letterZ (bz s p) = true
    · obtain ⟨h1, h2, h3, _⟩ := isRun_runTo s true (p := p) (by omega)
      rw [if_pos hL] at h
      dsimp only at h
      split at h
      · cases h
      · cases h
        exact fun j hj1 hj2 => okb_ascii (h3 j hj1 hj2)
    · rw [if_neg hL] at h
      dsimp only at h
      split at h
      · cases h
      · rename_i hg
        cases h
        intro j hj1 hj2
        obtain ⟨hf1, hf2⟩ := signOf_fit (s.extract p s.size)
        have hmem : signOf (s.extract p s.size) ∈ signStrs := by
          unfold signOf at hg ⊢
          cases hfi : signStrs.find? (signHit (s.extract p s.size)) with
          | none => rw [hfi] at hg; exact absurd rfl hg
          | some g => exact List.mem_of_find?_eq_some hfi
        have hs2 := signOf_size (s.extract p s.size)
        generalize hG : signOf (s.extract p s.size) = g at *
        have hi : j - p < g.size := by omega
        have ha := sign_ascii g hmem (j - p) (by omega) hi
        have e1 : bz s j = bz (s.extract p s.size) (j - p) := by rw [bz_rest, show p + (j - p) = j by omega]
        rw [e1]
        clear e1
        generalize s.extract p s.size = t at *
        have hi2 : j - p < t.size := by omega
        have e3 : g[j - p]'hi = (t.extract 0 g.size)[j - p]'(by rw [hf2]; exact hi) := by
          congr 1
          exact hf2.symm
        have e4 : (t.extract 0 g.size)[j - p]'(by rw [hf2]; exact hi) = t[j - p]'hi2 := by
          rw [ByteArray.getElem_extract]
          exact at_eq (by omega) _ _
        rw [bz_at t hi2, ← e4, ← e3]
        omega
end Go.Proofs.YtkdipppeljpgmaaGreatDoor

/- The program's cutting of a text into words is the plain one; its list of words lies in memory of its own. -/
namespace Go.Proofs.YtkdipppeljpgmaaGreatDoor
open Go.RowKit

theorem owns_iterAt {w : World} {base : Nat} {e : TypeId} {size : Nat} {v : Value} {n : Nat} {xs : List Value} (h : w.ownsRow base e size v n xs) {k : Nat} (hk : k < base) (s : ByteArray) (p : Nat) : (w.iterAt k s p).ownsRow base e size v n xs := by
  refine h.kept (row := some k) ⟨rfl, rfl, rfl, by rw [Lib.iterAt_size]; exact Nat.le_refl _, fun j _ hj => Lib.iterAt_other _ _ _ _ _ (fun e => hj (by rw [e]))⟩ (Or.inr (fun e => ?_))
  have := (h.lt _ e).1
  omega

theorem blank_high {x : Int} (h : 128 ≤ x) : (x == 32) = false ∧ (x == 10) = false := by
  constructor <;> rw [beq_eq_false_iff_ne] <;> omega

set_option maxHeartbeats 2000000 in
set_option maxRecDepth 100000 in
theorem implWords_calls (s : ByteArray) (w : World) :
    Calls Tryz.prog 15 #[.string s] w fun e w' => (∃ v, Told (w.heap.size + 2) (lexAll s) v e w') ∧ Below w.heap.size w w' := by
  obtain ⟨R, hR⟩ : ∃ R, lexAll s = R := ⟨_, rfl⟩
  rw [hR]
  unfold lexAll at hR
  by_cases hbig : (1500 : Int) < s.size
  · rw [if_pos (by omega)] at hR
    subst hR
    go_enter Tryz.func15, Tryz.ntmps15
    go_wp2_with fail
    refine bodyPost_ret (v := .tuple #[.slice none 0 0, .agg #[.int .i64 1, .int .i64 0]]) (by simp [results, Tryz.results15, go_sem]) rfl ⟨⟨.slice none 0 0, rfl, World.ownsRow_nil _ _ _ _⟩, ?_⟩
    repeat (first | exact Below.refl _ _ | refine Below.alloc ?_ (by first | (simp; done) | (simp; omega)) _)
  rw [if_neg (by omega)] at hR
  have HR : Hid (lexGo s s.size 0 [] = R) := hR
  clear hR
  obtain ⟨i0, hi, hz0, hz1, hz2⟩ := info_parts info_word
  go_enter Tryz.func15, Tryz.ntmps15
  go_wp2_with fail
  go_loopg [4, 5] s.size (fun g o b wx => ∃ (pos bh f : Nat) (ws : List Wd), b = .int .i64 bh ∧ wx.heap[w.heap.size + 1]? = some (.stringIter s pos) ∧ pos ≤ s.size ∧ bh ≤ s.size ∧ s.size ≤ pos + g ∧ s.size ≤ max pos bh + f ∧ ws.length ≤ max pos bh ∧
      Hid (∀ j, pos ≤ j → j < bh → bz s j < 128) ∧ Hid (lexGo s f (max pos bh) ws = R) ∧ wx.ownsRow (w.heap.size + 2) 43 3 o ws.length (flatW ws) ∧
      wx.heap[w.heap.size]? = some (.cells #[.int .i64 0, .int .i64 0] 27) ∧ Below w.heap.size w wx)
  case atStart =>
    refine ⟨0, 0, s.size, [], rfl, ?_, by omega, by omega, by omega, by omega, by simp, fun j h1 h2 => by omega, HR, World.ownsRow_nil _ _ _ _, ?_, ?_⟩
    · have := World.iter_heap (w.alloc (.cells #[.int .i64 0, .int .i64 0] 27)) s 0
      simpa using this
    · rw [World.iter, Below.heap_alloc _ _ _ (by simp)]
      exact (MapKept.heap_alloc w _).1
    · exact ((Below.refl _ _).alloc (Nat.le_refl _) _).alloc (by simp) _
  case round =>
    obtain ⟨pos, bh, f, ws, rfl, hit, hps, hbs, hfu, hfl, hwl, HA, HE, hown, hfault, hnx⟩ := hrel
    clear HR
    have hBlt : w.heap.size + 1 < wr.heap.size := (Array.getElem?_eq_some_iff.1 hit).1
    by_cases hp : pos < s.size
    · obtain ⟨g, rfl⟩ : ∃ g, gk = g + 1 := ⟨gk - 1, by omega⟩
      have hb := bz_at s hp
      by_cases ha : (s[pos]'hp).toNat < 128
      · have hnxt : ∀ ty, (Instr.next (.pointer (some ⟨w.heap.size + 1, 0, none⟩)) true ty).run Tryz.prog wr = _ := fun ty => Lib.run_next_ascii_at wr (w.heap.size + 1) s pos ty hit hp ha
        have hit2 := Lib.iterAt_heap wr (w.heap.size + 1) s pos (pos + 1) hit
        have hbw2 := Lib.below_iterAt hnx (k := w.heap.size + 1) (by omega) s (pos + 1)
        have hown2 := owns_iterAt hown (k := w.heap.size + 1) (by omega) s (pos + 1)
        have hf2 := (Lib.iterAt_other wr (w.heap.size + 1) w.heap.size s (pos + 1) (by omega)).trans hfault
        have hsz2 : w.heap.size + 1 < (wr.iterAt (w.heap.size + 1) s (pos + 1)).heap.size := by rw [Lib.iterAt_size]; exact hBlt
        obtain ⟨W, hWd⟩ : ∃ W, wr.iterAt (w.heap.size + 1) s (pos + 1) = W := ⟨_, rfl⟩
        rw [hWd] at hnxt hit2 hbw2 hown2 hf2 hsz2
        have hit3 : Hid (W.heap[w.heap.size + 1]? = some (.stringIter s (pos + 1))) := hit2
        have hf3 : Hid (W.heap[w.heap.size]? = some (.cells #[.int .i64 0, .int .i64 0] 27)) := hf2
        clear hWd hit hit2 hnx hown hfault hf2 hBlt
        by_cases hlt : pos < bh
        · have HA' : Hid (∀ j, pos + 1 ≤ j → j < bh → bz s j < 128) := fun j h1 h2 => HA.out j (by omega) h2
          have HE' : Hid (lexGo s f (max (pos + 1) bh) ws = R) := by
            rw [show max (pos + 1) bh = max pos bh by omega]
            exact HE
          clear HA HE hb
          go_wp2_with fail
          go_roundg g
          case measure => omega
          case rel => exact ⟨pos + 1, bh, f, ws, rfl, hit3.out, by omega, hbs, by omega, by omega, by omega, HA', HE', hown2, hf3.out, hbw2⟩
        · have em : max pos bh = pos := by omega
          obtain ⟨f, rfl⟩ : ∃ f', f = f' + 1 := ⟨f - 1, by omega⟩
          have hE := HE.out
          rw [em] at hE hwl hfl
          clear HA HE em
          have hnlt : decide ((pos : Int) < (bh : Int)) = false := decide_eq_false (by omega)
          cases hbl : blankZ ((s[pos]'hp).toNat : Int) with
          | true =>
            rw [lexGo_blank hp (by rw [hb]; exact hbl)] at hE
            have HE' : Hid (lexGo s f (max (pos + 1) bh) ws = R) := by
              rw [show max (pos + 1) bh = pos + 1 by omega]
              exact hE
            have HA' : Hid (∀ j, pos + 1 ≤ j → j < bh → bz s j < 128) := fun j h1 h2 => by omega
            clear hE hb ha
            cases h32 : (((s[pos]'hp).toNat : Int) == 32) with
            | true =>
              clear hbl
              go_wp2_with fail
              go_roundg g
              case measure => omega
              case rel => exact ⟨pos + 1, bh, f, ws, rfl, hit3.out, by omega, hbs, by omega, by omega, by omega, HA', HE', hown2, hf3.out, hbw2⟩
            | false =>
              have h10 : (((s[pos]'hp).toNat : Int) == 10) = true := by simpa [blankZ, h32] using hbl
              clear hbl
              go_wp2_with fail
              go_roundg g
              case measure => omega
              case rel => exact ⟨pos + 1, bh, f, ws, rfl, hit3.out, by omega, hbs, by omega, by omega, by omega, HA', HE', hown2, hf3.out, hbw2⟩
          | false =>
            have h32 : (((s[pos]'hp).toNat : Int) == 32) = false := by
              cases h : (((s[pos]'hp).toNat : Int) == 32) with
              | false => rfl
              | true => simp [blankZ, h] at hbl
            have h10 : (((s[pos]'hp).toNat : Int) == 10) = false := by
              cases h : (((s[pos]'hp).toNat : Int) == 10) with
              | false => rfl
              | true => simp [blankZ, h] at hbl
            have hnb : ¬ blankZ (bz s pos) = true := by rw [hb, hbl]; simp
            have hfr : FirstRune (s.extract pos s.size) (s[pos]'hp).toNat := by
              have h0 : 0 < (s.extract pos s.size).size := by rw [rest_size]; omega
              have e0 : (s.extract pos s.size)[0]'h0 = s[pos]'hp := by
                rw [ByteArray.getElem_extract]
                congr 1
              exact ⟨h0, Or.inl ⟨by rw [e0]; exact ha, by rw [e0]⟩⟩
            have hword := first_calls (s.extract pos s.size) (s[pos]'hp).toNat (by rw [rest_size]; omega) hfr
            rw [wordAt_rest hp, restVal_unplaced] at hword
            clear hbl hb ha hfr
            cases hw : wordAt s pos with
            | error c =>
              rw [lexGo_bad hp hnb hw] at hE
              rw [hw] at hword
              have HW : Hid (∀ w, _) := hword
              have hc := wordAt_code hw
              clear hw hnb hword hown2 hit3
              subst hE
              generalize ((s[pos]'hp).toNat) = x at *
              go_wp2_with fail
              refine (HW.out _).mono ?_
              rintro e W1 ⟨rfl, hb1⟩
              have hf4 := (hb1.block w.heap.size (by omega)).trans hf3.out
              have q0 := cell_of_heap hf4 0
              have q1 := cell_of_heap hf4 1
              have z0 := frozen_of_heap hf4 0
              have z1 := frozen_of_heap hf4 1
              simp at q0 q1
              have hnx1 := hbw2.trans (hb1.mono hbw2.size)
              have hBlt1 : w.heap.size < W1.heap.size := World.block_lt_of_cell? W1 _ q0
              clear HW hb1 hf3 hbw2 hf4
              simp only [restVal]
              have hcc : (c != 0) = true := by rcases hc with rfl | rfl | rfl <;> rfl
              go_wp2_with fail
              refine bodyPost_ret (v := .tuple #[.slice none 0 0, .agg #[.int .i64 c, .int .i64 pos]]) (by simp [results, Tryz.results15, go_sem, q0, q1, hBlt1]) rfl ⟨⟨.slice none 0 0, rfl, World.ownsRow_nil _ _ _ _⟩, ?_⟩
              exact ((hnx1.setCell (by simp) _).setCell (by simp) _).alloc (by simp; omega) _
            | ok de =>
              obtain ⟨d, e⟩ := de
              rw [lexGo_word hp hnb hw] at hE
              rw [hw] at hword
              have HW : Hid (∀ w, _) := hword
              have hend := wordAt_end hp hw
              have htx := wordAt_text hp hw
              have has := wordAt_ascii hp hw
              have HE' : Hid (lexGo s f (max (pos + 1) e) (ws ++ [d]) = R) := by
                rw [show max (pos + 1) e = e by omega]
                exact hE
              have HA' : Hid (∀ j, pos + 1 ≤ j → j < e → bz s j < 128) := fun j h1 h2 => has j (by omega) h2
              have Htx : Hid (e = pos + d.text.size ∧ d.at_ = pos ∧ e ≤ s.size) := htx
              have hts : d.text.size ≤ 1500 := by omega
              clear hw hnb hword hE has htx
              generalize ((s[pos]'hp).toNat) = x at *
              go_wp2_with fail
              refine (HW.out _).mono ?_
              rintro e' W1 ⟨rfl, hb1⟩
              have hf4 := (hb1.block w.heap.size (by omega)).trans hf3.out
              have hit4 := (hb1.block (w.heap.size + 1) hsz2).trans hit3.out
              have hown1 := owns_below hown2 hb1
              have hnx1 := hbw2.trans (hb1.mono hbw2.size)
              have hBlt1 : w.heap.size + 1 < W1.heap.size := (Array.getElem?_eq_some_iff.1 hit4).1
              have Hf4 : Hid (W1.heap[w.heap.size]? = some (.cells #[.int .i64 0, .int .i64 0] 27)) := hf4
              have Hit4 : Hid (W1.heap[w.heap.size + 1]? = some (.stringIter s (pos + 1))) := hit4
              clear HW hb1 hf3 hit3 hbw2 hown2 hf4 hit4 hsz2
              simp only [restVal]
              go_wp2_with (first
                | (at_builtin; refine wpList_append_own _ rfl _ _ 34 rfl (w.heap.size + 2) 43 i0 (.agg #[.int .i64 0, .string ⟨#[]⟩, .int .i64 0]) 3 32 Tryz.underlying34 hi hz0 hz1 hz2 rfl (by decide) _ _ _ rfl ((hown1.alloc _).alloc _) ⟨W1.heap.size + 1, 0, none⟩ 1 1 [.int .i64 d.kind, .string d.text, .int .i64 pos] rfl rfl (cell_three_new _ _ (by simp) _ _ _ _) (fun x hx => by simp at hx; rcases hx with rfl | rfl | rfl <;> rfl) (by unfold maxLen; omega) (by omega) (by simp; omega) ?_
                   intro v' w3 hown' hgrow3 hnil3
                   have hf5 : Hid (w3.heap[w.heap.size]? = some (.cells #[.int .i64 0, .int .i64 0] 27)) := by
                     show w3.heap[w.heap.size]? = _
                     rw [hgrow3.block w.heap.size (by simp; omega) (fun h => by have := (hown1.lt _ h.symm).1; omega), Below.heap_alloc _ _ _ (by simp; omega), Below.heap_alloc _ _ _ (by omega)]
                     exact Hf4.out
                   have hit5 : Hid (w3.heap[w.heap.size + 1]? = some (.stringIter s (pos + 1))) := by
                     show w3.heap[w.heap.size + 1]? = _
                     rw [hgrow3.block (w.heap.size + 1) (by simp; omega) (fun h => by have := (hown1.lt _ h.symm).1; omega), Below.heap_alloc _ _ _ (by simp; omega), Below.heap_alloc _ _ _ (by omega)]
                     exact Hit4.out
                   have hbw3 : Below w.heap.size w w3 := Below.grown ((hnx1.alloc (by omega) _).alloc (by simp; omega) _) hgrow3 (by simp; omega) (fun j hj => by have := (hown1.lt _ hj).1; omega)
                   have hwb : Hid (w3.heap[W1.heap.size]? = some (.cells #[.int .i64 d.kind, .string d.text, .int .i64 pos] 43)) := by
                     show w3.heap[W1.heap.size]? = _
                     rw [hgrow3.block W1.heap.size (by simp; omega) (fun h => by have := (hown1.lt _ h.symm).2; omega), Below.heap_alloc _ _ _ (by simp)]
                     exact (MapKept.heap_alloc W1 _).1
                   have k1 := cell_of_heap hwb.out 1
                   simp at k1
                   clear hgrow3 hnil3 Hf4 Hit4 hown1 hnx1 hwb))
              go_roundg g
              case measure => omega
              case rel =>
                have htx := Htx.out
                refine ⟨pos + 1, e, f, ws ++ [d], ?_, hit5.out, by omega, by omega, by omega, by omega, by simp; omega, HA', HE', ?_, hf5.out, hbw3⟩
                · rw [htx.1]
                  simp
                · rw [flatW_append, List.length_append]
                  have ed : flatW [d] = [.int .i64 d.kind, .string d.text, .int .i64 pos] := by
                    rw [← htx.2.1]
                    rfl
                  rw [ed]
                  exact hown'
      · have hnxt : ∀ ty, (Instr.next (.pointer (some ⟨w.heap.size + 1, 0, none⟩)) true ty).run Tryz.prog wr = _ := fun ty => Lib.run_next_any_at wr (w.heap.size + 1) s pos ty hit hp
        have hhi := (decode_high s pos hp (by omega)).1
        have hbw2 := Lib.below_iterAt hnx (k := w.heap.size + 1) (by omega) s (pos + (Utf8.decode s pos).2)
        have hf2 := (Lib.iterAt_other wr (w.heap.size + 1) w.heap.size s (pos + (Utf8.decode s pos).2) (by omega)).trans hfault
        have hsz2 : w.heap.size + 1 < (wr.iterAt (w.heap.size + 1) s (pos + (Utf8.decode s pos).2)).heap.size := by rw [Lib.iterAt_size]; exact hBlt
        obtain ⟨X, hX⟩ : ∃ X, (Utf8.decode s pos).1 = X := ⟨_, rfl⟩
        rw [hX] at hnxt hhi
        obtain ⟨W, hWd⟩ : ∃ W, wr.iterAt (w.heap.size + 1) s (pos + (Utf8.decode s pos).2) = W := ⟨_, rfl⟩
        rw [hWd] at hnxt hbw2 hf2 hsz2
        have hf3 : Hid (W.heap[w.heap.size]? = some (.cells #[.int .i64 0, .int .i64 0] 27)) := hf2
        have hlt : ¬ pos < bh := fun h => by
          have := HA.out pos (by omega) h
          rw [hb] at this
          omega
        have em : max pos bh = pos := by omega
        obtain ⟨f, rfl⟩ : ∃ f', f = f' + 1 := ⟨f - 1, by omega⟩
        have hE := HE.out
        rw [em] at hE
        have hnlt : decide ((pos : Int) < (bh : Int)) = false := decide_eq_false (by omega)
        obtain ⟨h32, h10⟩ := blank_high (x := (X : Int)) (by omega)
        obtain ⟨b32, b10⟩ := blank_high (x := ((s[pos]'hp).toNat : Int)) (by omega)
        have hnb : ¬ blankZ (bz s pos) = true := by rw [hb, blankZ, b32, b10]; simp
        have hfr : FirstRune (s.extract pos s.size) X := by
          have h0 : 0 < (s.extract pos s.size).size := by rw [rest_size]; omega
          have e0 : (s.extract pos s.size)[0]'h0 = s[pos]'hp := by
            rw [ByteArray.getElem_extract]
            congr 1
          exact ⟨h0, Or.inr ⟨by rw [e0]; omega, hhi⟩⟩
        have hword := first_calls (s.extract pos s.size) X (by rw [rest_size]; omega) hfr
        rw [wordAt_rest hp, restVal_unplaced] at hword
        cases hw : wordAt s pos with
        | ok de =>
          obtain ⟨d, e⟩ := de
          have := wordAt_ascii hp hw pos (by omega) (wordAt_end hp hw).1
          rw [hb] at this
          omega
        | error c =>
          rw [lexGo_bad hp hnb hw] at hE
          rw [hw] at hword
          have HW : Hid (∀ w, _) := hword
          have hc := wordAt_code hw
          clear hw hnb hword hown hit hfault hf2 hnx HA HE hWd hX hfr b32 b10 em hb ha hhi
          subst hE
          go_wp2_with fail
          refine (HW.out _).mono ?_
          rintro e W1 ⟨rfl, hb1⟩
          have hf4 := (hb1.block w.heap.size (by omega)).trans hf3.out
          have q0 := cell_of_heap hf4 0
          have q1 := cell_of_heap hf4 1
          have z0 := frozen_of_heap hf4 0
          have z1 := frozen_of_heap hf4 1
          simp at q0 q1
          have hnx1 := hbw2.trans (hb1.mono hbw2.size)
          have hBlt1 : w.heap.size < W1.heap.size := World.block_lt_of_cell? W1 _ q0
          clear HW hb1 hf3 hbw2 hf4
          simp only [restVal]
          have hcc : (c != 0) = true := by rcases hc with rfl | rfl | rfl <;> rfl
          go_wp2_with fail
          refine bodyPost_ret (v := .tuple #[.slice none 0 0, .agg #[.int .i64 c, .int .i64 pos]]) (by simp [results, Tryz.results15, go_sem, q0, q1, hBlt1]) rfl ⟨⟨.slice none 0 0, rfl, World.ownsRow_nil _ _ _ _⟩, ?_⟩
          exact ((hnx1.setCell (by simp) _).setCell (by simp) _).alloc (by simp; omega) _
    · have hnxt : ∀ ty, (Instr.next (.pointer (some ⟨w.heap.size + 1, 0, none⟩)) true ty).run Tryz.prog wr = _ := fun ty => Lib.run_next_end_at wr (w.heap.size + 1) s pos ty hit hp
      have hE := HE.out
      rw [lexGo_end (by omega)] at hE
      have q0 := cell_of_heap hfault 0
      have q1 := cell_of_heap hfault 1
      have z0 := frozen_of_heap hfault 0
      have z1 := frozen_of_heap hfault 1
      simp at q0 q1
      subst hE
      clear HE HA hfault hit
      go_wp2_with fail
      refine bodyPost_ret (v := .tuple #[_, .agg #[.int .i64 0, .int .i64 0]]) (by simp [results, Tryz.results15, go_sem, q0, q1]; rfl) rfl ⟨⟨_, rfl, ?_⟩, (hnx.setCell (by simp) _).setCell (by simp) _⟩
      exact owns_setCell (owns_setCell hown (by simp) _) (by simp) _
end Go.Proofs.YtkdipppeljpgmaaGreatDoor

/- Whether nodes are a tree, as the program asks it. -/
namespace Go.Proofs.YtkdipppeljpgmaaGreatDoor
open Go.RowKit Go.Deep

set_option maxHeartbeats 1000000 in
set_option maxRecDepth 100000 in
theorem formOfTree_calls (b off cap : Nat) (ns : List Nd) (n : Nd) (k : Fo) (w : World) (hm : ns.length ≤ 300) (hfit : ∀ m ∈ ns, Fits m m.kids.toNat) (hbw : b < w.heap.size) (hn : NodesAt w b off ns)
    (h1 : ns = n :: k.flat) (h2 : n.kids = k.count) (h3 : k.wf) :
    Calls Tryz.prog 78 #[.slice (some ⟨b, off, none⟩) ns.length cap] w fun e w' => ∃ v us, e = .returned v ∧ Forms w.heap.size w' k us ∧ Shape w.heap.size w' n us v ∧ Below w.heap.size w w' := by
  have hdr : ns.drop 0 = n :: (k.flat ++ []) := by rw [h1]; simp
  have HC : Hid (Calls _ _ _ _ _) := formAt_calls b off cap ns hm hfit (k.flat.length + 1) n k [] 0 w hbw hn hdr h2 h3 (Nat.lt_succ_self _)
  clear hdr hm hfit hn h1 h2 h3
  generalize ns.length = len at *
  go_enter Tryz.func78, Tryz.ntmps78
  go_wp2_with fail
  refine HC.out.mono ?_
  rintro e w2 ⟨v, us, rfl, hF, hS, hb⟩
  have HX : Hid (Forms w.heap.size w2 k us ∧ Shape w.heap.size w2 n us v ∧ Below w.heap.size w w2) := ⟨hF, hS, hb⟩
  clear hF hS hb
  go_wp2_with fail
  go_ret
  exact ⟨v, us, rfl, HX.out⟩

set_option maxHeartbeats 4000000 in
set_option maxRecDepth 100000 in
theorem implTree_calls (b off cap : Nat) (ns : List Nd) (w : World) (R : Bool) (hm : ns.length ≤ 1048576) (hbw : b < w.heap.size) (hn : NodesAt w b off ns) (hs : Short ns) (hA : ImplAns ns R) :
    Calls Tryz.prog 45 #[.slice (some ⟨b, off, none⟩) ns.length cap] w fun e w' => e = .returned (.bool R) ∧ Below w.heap.size w w' := by
  by_cases hl : 1 ≤ ns.length ∧ ns.length ≤ 300
  · have hrest := hA.rest hl
    obtain ⟨len, hlen⟩ : ∃ len, ns.length = len := ⟨_, rfl⟩
    have Hlen : Hid (ns.length = len) := hlen
    have HR : Hid (Rest ns R nodeOkZ implTree) := hrest
    have HN : Hid (NodesAt w b off ns) := hn
    have HL : Hid (1 ≤ len ∧ len ≤ 300) := by show _ ∧ _; omega
    have HS : Hid (Short ns) := hs
    have h1 : (1 : Int) ≤ (len : Int) := by omega
    have h2 : (len : Int) ≤ 300 := by omega
    rw [hlen]
    clear hrest hn hA hl hm hlen hs
    go_enter Tryz.func45, Tryz.ntmps45
    go_wp2_with fail
    clear h1 h2
    go_loopw [15] (fun i wr => ∃ i' : Nat, i = .int .i64 i' ∧ i' ≤ len ∧ Hid ((ns.take i').all nodeOkZ = true) ∧ Below w.heap.size w wr) (fun i _ => len - (intOf i).toNat)
    case atStart => exact ⟨0, rfl, Nat.zero_le _, rfl, Below.refl _ _⟩
    case round =>
      obtain ⟨i', rfl, hle, HT, hbx⟩ := hrel
      have hnx := HN.out.below hbx hbw
      by_cases hlt : (i' : Int) < (len : Int)
      · have hil : i' < ns.length := by rw [Hlen.out]; omega
        have c0 := hnx i' hil 0 (by omega)
        have c1 := hnx i' hil 1 (by omega)
        have c2 := hnx i' hil 2 (by omega)
        have c3 := hnx i' hil 3 (by omega)
        have c4 := hnx i' hil 4 (by omega)
        have c5 := hnx i' hil 5 (by omega)
        obtain ⟨n, hnn⟩ : ∃ n, ns.getD i' default = n := ⟨_, rfl⟩
        have hF : nodeOkZ n = false → Hid (R = false) := fun h => HR.out.1 (all_false hil (by rw [hnn]; exact h))
        have hT : nodeOkZ n = true → Hid ((ns.take (i' + 1)).all nodeOkZ = true) := fun h => all_take_succ hil HT.out (by rw [hnn]; exact h)
        rw [hnn] at c0 c1 c2 c3 c4 c5
        simp only [Nd.cell, Nat.add_zero] at c0 c1 c2 c3 c4 c5
        have hsh := HS.out n (by rw [← hnn, List.getD, List.getElem?_eq_getElem hil]; exact List.getElem_mem _)
        have HO : Hid (∀ w, _) := fun w => nodeOk_calls n w hsh.1 hsh.2.1 hsh.2.2
        clear hnx hil hnn HT hsh
        obtain ⟨kd, num, a, bb, cc, kids⟩ := n
        dsimp only at *
        go_wp2_with fail
        refine (HO.out _).mono ?_
        rintro e w2 ⟨rfl, hb2⟩
        have hb3 : Below w.heap.size w w2 := (hbx.alloc (by have := hbx.size; omega) _).trans (hb2.mono (by have := hbx.size; simp; omega))
        clear c0 c1 c2 c3 c4 c5 hb2 HO
        cases ho : nodeOkZ ⟨kd, num, a, bb, cc, kids⟩ with
        | false =>
          have HF := hF ho
          clear hF hT
          go_wp2_with fail
          go_ret
          exact ⟨by rw [HF.out]; rfl, hb3⟩
        | true =>
          have HT := hT ho
          clear hF hT
          go_wp2_with fail
          have hs := lt_step hlt
          try rw [wrap_succ (by have := HL.out; omega)]
          exact ⟨⟨i' + 1, rfl, by omega, HT, hb3⟩, hs⟩
      · have e : i' = len := by omega
        subst e
        have hall : ns.all nodeOkZ = true := by
          have := HT.out
          rwa [List.take_of_length_le (by rw [Hlen.out]; exact Nat.le_refl _)] at this
        have HX : Hid (∀ w, NodesAt w b off ns → _) := fun w h => implEnd_calls b off cap ns 0 w h (by rw [Hlen.out]; have := HL.out; omega) (by omega)
        rw [Hlen.out] at HX
        rcases HR.out.2 hall with ⟨hne, hR⟩ | ⟨n, k, g1, g2, g3, g4, hR⟩
        · have hne' : (treeEnd ns 0 != (i' : Int)) = true := by rw [bne_iff_ne]; rw [Hlen.out] at hne; exact hne
          clear HT hall hne
          generalize treeEnd ns 0 = te at *
          subst hR
          go_wp2_with fail
          refine (HX.out wr hnx).mono ?_
          rintro e w2 ⟨rfl, rfl⟩
          go_wp2_with fail
          go_ret
          exact ⟨rfl, hbx⟩
        · have hfit : ∀ m ∈ ns, Fits m m.kids.toNat := fun m hm => by
            have := List.all_eq_true.1 hall m hm
            simp only [nodeOkZ, Bool.and_eq_true] at this
            exact fits_of_own this.1
          have hkl : k.flat.length ≤ 300 := by
            have := HL.out
            have e := Hlen.out
            rw [g1, List.length_cons] at e
            omega
          have HC : Hid (∀ w, b < w.heap.size → NodesAt w b off ns → _) := fun w hb h => clausesOk_calls b off cap ns n k w (by rw [Hlen.out]; have := HL.out; omega) hb h g1 g2 g3
          have HG : Hid (∀ w, b < w.heap.size → NodesAt w b off ns → _) := fun w hb h => formOfTree_calls b off cap ns n k w (by rw [Hlen.out]; have := HL.out; omega) hfit hb h g1 g2 g3
          rw [Hlen.out] at HC HG
          rw [g4, Hlen.out] at HX
          have HE : Hid (R = (implTree n k && decide (k.deep + 1 ≤ 40))) := hR
          have HKL : Hid (k.flat.length ≤ 300) := hkl
          have hee : (((i' : Int)) != (i' : Int)) = false := by simp
          clear HT hall g1 g2 g3 g4 hR HR hfit hkl
          go_wp2_with fail
          refine (HX.out wr hnx).mono ?_
          rintro e w2 ⟨rfl, rfl⟩
          go_wp2_with fail
          refine (HC.out wr (by have := hbx.size; omega) hnx).mono ?_
          rintro e w2 ⟨rfl, hb2⟩
          have hb3 := hbx.trans (hb2.mono hbx.size)
          have hn3 := HN.out.below hb3 hbw
          clear hb2 HX HC
          cases hit : implTree n k with
          | false =>
            go_wp2_with fail
            go_ret
            refine ⟨?_, hb3⟩
            rw [HE.out, hit, Bool.false_and]
            rfl
          | true =>
            go_wp2_with fail
            refine (HG.out w2 (by have := hb3.size; omega) hn3).mono ?_
            rintro e w4 ⟨v, us, rfl, hF4, hS4, hb4⟩
            have hb5 := hb3.trans (hb4.mono hb3.size)
            have HD : Hid (Calls _ _ _ _ _) := deepOf_calls (k.flat.length + 1) _ n k us v w4 hF4 hS4 HKL.out (Nat.lt_succ_self _)
            clear hF4 hS4 hb4 HG hn3
            generalize k.deep + 1 = dd at *
            go_wp2_with fail
            refine HD.out.mono ?_
            rintro e w6 ⟨rfl, hb6⟩
            go_wp2_with fail
            go_ret
            refine ⟨?_, hb5.trans (hb6.mono hb5.size)⟩
            rw [HE.out, hit, Bool.true_and]
            show Ending.returned (Value.bool (decide ((dd : Int) ≤ 40))) = _
            congr 2
            exact decide_eq_decide.2 (by omega)
  · have hR : R = false := by
      rcases hA with ⟨_, h⟩ | ⟨h1, h2, _⟩ | ⟨h1, h2, _⟩
      · exact h
      · exact absurd ⟨h1, h2⟩ hl
      · exact absurd ⟨h1, h2⟩ hl
    subst hR
    have hl' : (ns.length : Int) < 1 ∨ ((1 : Int) ≤ (ns.length : Int) ∧ (300 : Int) < (ns.length : Int)) := by omega
    clear hA hm hn hl hs
    generalize ns.length = len at *
    rcases hl' with h | ⟨h, h'⟩
    all_goals
      go_enter Tryz.func45, Tryz.ntmps45
      go_wp2_with fail
      go_ret
      exact ⟨rfl, Below.refl _ _⟩
end Go.Proofs.YtkdipppeljpgmaaGreatDoor

/- Whether a program may be, as the program asks it: lists with room, or none. -/
namespace Go.Proofs.YtkdipppeljpgmaaGreatDoor
open Go.RowKit Go.Deep

set_option maxHeartbeats 8000000 in
set_option maxRecDepth 100000 in
theorem implProgC_calls (ae : Option Addr) (be bt ce cn : Nat) (es : List Ef) (ns : List Nd) (T : Bool) (w : World) (hce : es.length ≤ ce) (hae : es ≠ [] → ae = some ⟨be, 0, none⟩) (hbe : be < w.heap.size) (hbt : bt < w.heap.size) (hE : EffsAt w be 0 es) (hN : NodesAt w bt 0 ns) (me : es.length ≤ 1048576) (mn : ns.length ≤ 1048576) (hsh : ∀ e ∈ es, e.name.size ≤ maxLen) (hTT : ∀ w' : World, bt < w'.heap.size → NodesAt w' bt 0 ns → Calls Tryz.prog 45 #[.slice (some ⟨bt, 0, none⟩) ns.length cn] w' fun e w'' => e = .returned (.bool T) ∧ Below w'.heap.size w' w'') :
    Calls Tryz.prog 19 #[.agg #[.slice ae es.length ce, .slice (some ⟨bt, 0, none⟩) ns.length cn]] w fun e w' => e = .returned (.bool (progZ es ns T)) ∧ Below w.heap.size w w' := by
  have hb1 : Below w.heap.size w (w.alloc (.cells #[.slice ae es.length ce, .slice (some ⟨bt, 0, none⟩) ns.length cn] 25)) := (Below.refl _ _).alloc (Nat.le_refl _) _
  have HT : Hid (Calls _ _ _ _ _) := hTT (w.alloc (.cells #[.slice ae es.length ce, .slice (some ⟨bt, 0, none⟩) ns.length cn] 25)) (Nat.lt_of_lt_of_le hbt hb1.size) (hN.below hb1 hbt)
  have HB1 : Hid (Below w.heap.size w (w.alloc (.cells #[.slice ae es.length ce, .slice (some ⟨bt, 0, none⟩) ns.length cn] 25))) := hb1
  have HK1 : Hid ((w.alloc (.cells #[.slice ae es.length ce, .slice (some ⟨bt, 0, none⟩) ns.length cn] 25)).heap[w.heap.size]? = some (.cells #[.slice ae es.length ce, .slice (some ⟨bt, 0, none⟩) ns.length cn] 25)) := (MapKept.heap_alloc w _).1
  obtain ⟨R, hR⟩ : ∃ R, progZ es ns T = R := ⟨_, rfl⟩
  have HR : Hid (progZ es ns T = R) := hR
  have HE : Hid (EffsAt w be 0 es) := hE
  have HN : Hid (NodesAt w bt 0 ns) := hN
  have HMN : Hid (ns.length ≤ 1048576) := mn
  rw [hR]
  obtain ⟨len, hlen⟩ : ∃ len, es.length = len := ⟨_, rfl⟩
  obtain ⟨ln, hln⟩ : ∃ ln, ns.length = ln := ⟨_, rfl⟩
  have Hlen : Hid (es.length = len ∧ ns.length = ln) := ⟨hlen, hln⟩
  rw [hlen, hln] at HT HB1 HK1 ⊢
  have HM : Hid (len ≤ 1048576 ∧ ln ≤ 1048576) := by show _ ∧ _; omega
  have HSH : Hid (∀ e ∈ es, e.name.size ≤ maxLen) := hsh
  have HAe : Hid (len ≤ ce ∧ (es ≠ [] → ae = some ⟨be, 0, none⟩)) := ⟨by omega, hae⟩
  clear hce hae hb1 hR hE hN me mn hTT hlen hln hsh
  by_cases h8 : (8 : Int) < (len : Int)
  · have HF : Hid (R = false) := by
      show R = false
      rw [← HR.out, progZ, Hlen.out.1, decide_eq_false (by omega), Bool.false_and]
    clear HT HE HN HK1
    go_enter Tryz.func19, Tryz.ntmps19
    go_wp2_with fail
    go_ret
    exact ⟨by rw [HF.out]; rfl, HB1.out⟩
  have h8' : (len : Int) ≤ 8 := by omega
  have HR8 : Hid ((T && ((List.range len).all (effOk es) && ns.all (nodeHas es))) = R) := by
    show _ = R
    rw [← HR.out, progZ, Hlen.out.1, decide_eq_true (by omega), Bool.true_and]
  clear h8
  go_enter Tryz.func19, Tryz.ntmps19
  go_wp2_with fail
  refine HT.out.mono ?_
  rintro e w2 ⟨rfl, hb2⟩
  have hbw2 := HB1.out.trans (hb2.mono HB1.out.size)
  have kp2 := (hb2.block w.heap.size (by simp)).trans HK1.out
  clear HT HB1 HK1 hb2
  cases T with
  | false =>
    go_wp2_with fail
    go_ret
    exact ⟨by rw [← HR8.out]; rfl, hbw2⟩
  | true =>
    have HRR : Hid (((List.range len).all (effOk es) && ns.all (nodeHas es)) = R) := HR8.out
    clear HR8 HR
    have pA0 := cell_of_heap kp2 0
    simp at pA0
    go_wp2_with fail
    clear pA0
    go_loopw [20] (fun i wr => ∃ i' : Nat, i = .int .i64 i' ∧ i' ≤ len ∧ Hid ((List.range i').all (effOk es) = true) ∧ wr.heap[w.heap.size]? = some (.cells #[.slice ae len ce, .slice (some ⟨bt, 0, none⟩) ln cn] 25) ∧ Below w.heap.size w wr) (fun i _ => len - (intOf i).toNat)
    case atStart => exact ⟨0, rfl, Nat.zero_le _, rfl, kp2, hbw2⟩
    case round =>
      obtain ⟨i', rfl, hle, HI, kp, hbx⟩ := hrel
      have hAlt := heap_lt kp
      have pA := cell_of_heap kp 0
      have pB := cell_of_heap kp 1
      simp at pA pB
      have hEx := HE.out.below hbx hbe
      by_cases hlt : (i' : Int) < (len : Int)
      · have hic : (i' : Int) ≤ (ce : Int) := by have := HAe.out.1; omega
        have hae : ae = some ⟨be, 0, none⟩ := HAe.out.2 (fun e => by have := Hlen.out.1; rw [e] at this; simp at this; omega)
        subst hae
        have hil : i' < es.length := by rw [Hlen.out.1]; omega
        have c0 := hEx i' hil 0 (by omega)
        have c1 := hEx i' hil 1 (by omega)
        have c2 := hEx i' hil 2 (by omega)
        obtain ⟨ef, hef⟩ : ∃ ef, es.getD i' default = ef := ⟨_, rfl⟩
        have hF : effOk es i' = false → Hid (R = false) := fun h => by
          show R = false
          have := range_false hil h
          rw [Hlen.out.1] at this
          rw [← HRR.out, this, Bool.false_and]
        have hS : effOk es i' = true → Hid ((List.range (i' + 1)).all (effOk es) = true) := fun h => range_step HI.out h
        have hdef : effOk es i' = (nameOk ef.name && (!effIn (es.take i') ef.name && (decide (1 ≤ ef.arg ∧ ef.arg ≤ 4) && decide (1 ≤ ef.res ∧ ef.res ≤ 4)))) := by rw [effOk, hef]
        rw [hdef] at hF hS
        rw [hef] at c0 c1 c2
        simp only [Ef.cell, Nat.add_zero, Nat.zero_add] at c0 c1 c2
        have htl : (es.take i').length = i' := by simp; omega
        have HP : Hid (∀ w, be < w.heap.size → EffsAt w be 0 es → _) := fun w hb h => hasEff_calls (some ⟨be, 0, none⟩) ce (es.take i') ef.name w (by rw [htl]; have := HM.out; omega) (fun _ => ⟨be, 0, rfl, hb, effsTake h⟩)
        rw [htl] at HP
        have hshe : ef.name.size ≤ maxLen := by
          rw [← hef]
          exact HSH.out _ (by simp [List.getD, List.getElem?_eq_getElem hil])
        have hLn : ∀ w, _ := fun w => implName_calls ef.name hshe w
        have hbW : Below w.heap.size w (wr.alloc (.cells #[.string ef.name, .int .i64 ef.arg, .int .i64 ef.res] 59)) := hbx.alloc (by have := hbx.size; omega) _
        have HEW : Hid (EffsAt (wr.alloc (.cells #[.string ef.name, .int .i64 ef.arg, .int .i64 ef.res] 59)) be 0 es) := HE.out.below hbW hbe
        obtain ⟨nm, ar, rs⟩ := ef
        dsimp only at *
        clear hEx hil hdef hef HI HE htl hshe
        generalize effIn (es.take i') nm = ein at *
        have hA1 : ∀ w, _ := fun w => baseOk_calls ar w
        have hA2 : ∀ w, _ := fun w => baseOk_calls rs w
        generalize decide (1 ≤ ar ∧ ar ≤ 4) = okA at *
        generalize decide (1 ≤ rs ∧ rs ≤ 4) = okR at *
        generalize nameOk nm = okN at *
        go_wp2_with fail
        have u0 : (wr.alloc (.cells #[.string nm, .int .i64 ar, .int .i64 rs] 59)).cell? ⟨wr.heap.size, 0, none⟩ = some (.string nm) := by simp [go_sem]
        have u1 : (wr.alloc (.cells #[.string nm, .int .i64 ar, .int .i64 rs] 59)).cell? ⟨wr.heap.size, 1, none⟩ = some (.int .i64 ar) := by simp [go_sem]
        have u2 : (wr.alloc (.cells #[.string nm, .int .i64 ar, .int .i64 rs] 59)).cell? ⟨wr.heap.size, 2, none⟩ = some (.int .i64 rs) := by simp [go_sem]
        have kpW := (Below.heap_alloc wr (.cells #[.string nm, .int .i64 ar, .int .i64 rs] 59) _ hAlt).trans kp
        have uA := cell_of_heap kpW 0
        simp at uA
        have hEW : wr.heap.size < (wr.alloc (.cells #[.string nm, .int .i64 ar, .int .i64 rs] 59)).heap.size := by simp
        have hAW : w.heap.size < (wr.alloc (.cells #[.string nm, .int .i64 ar, .int .i64 rs] 59)).heap.size := by simp; omega
        have hbeW : be < (wr.alloc (.cells #[.string nm, .int .i64 ar, .int .i64 rs] 59)).heap.size := by simp; omega
        generalize (wr.alloc (.cells #[.string nm, .int .i64 ar, .int .i64 rs] 59)) = W at *
        have HED : Hid (EffsAt W be 0 es) := HEW.out
        have v0 : ∀ x : Later W.heap.size W, x.w.cell? ⟨wr.heap.size, 0, none⟩ = some (.string nm) := fun x => x.cell hEW u0
        have v1 : ∀ x : Later W.heap.size W, x.w.cell? ⟨wr.heap.size, 1, none⟩ = some (.int .i64 ar) := fun x => x.cell hEW u1
        have v2 : ∀ x : Later W.heap.size W, x.w.cell? ⟨wr.heap.size, 2, none⟩ = some (.int .i64 rs) := fun x => x.cell hEW u2
        have vA : ∀ x : Later W.heap.size W, x.w.cell? ⟨w.heap.size, 0, none⟩ = some (.slice (some ⟨be, 0, none⟩) len ce) := fun x => x.cell hAW uA
        clear c0 c1 c2 pA pB kp HEW
        have HL : Hid (∀ w, _) := hLn
        have H1 : Hid (∀ w, _) := hA1
        have H2 : Hid (∀ w, _) := hA2
        clear hLn hA1 hA2
        have HFF : Hid ((okN && (!ein && (okA && okR))) = false → Hid (R = false)) := hF
        have HSS : Hid ((okN && (!ein && (okA && okR))) = true → Hid ((List.range (i' + 1)).all (effOk es) = true)) := hS
        clear hF hS
        cases okN
        · have HF := HFF.out rfl
          clear HFF HSS
          refine wp_region_calm W.heap.size (by kernel_rfl) (by kernel_rfl) ?_
          repeat (go_big_quiet_step (first
            | (rename_i x; go_at_call 46; refine (HL.out _).mono ?_; rintro e w5 ⟨rfl, hb5⟩; exact ⟨rfl, ⟨w5, x.h.trans (hb5.mono x.h.size)⟩, rfl⟩)
            | (rename_i x; go_at_call 47; refine (H1.out _).mono ?_; rintro e w6 ⟨rfl, rfl⟩; exact ⟨rfl, x, rfl⟩)
            | (rename_i x; go_at_call 47; refine (H2.out _).mono ?_; rintro e w6 ⟨rfl, rfl⟩; exact ⟨rfl, x, rfl⟩)
            | (rename_i x; go_at_call 48; refine (HP.out _ (Nat.lt_of_lt_of_le hbeW x.h.size) (HED.out.below x.h hbeW)).mono ?_; rintro e w5 ⟨rfl, hb5⟩; exact ⟨rfl, ⟨w5, x.h.trans (hb5.mono x.h.size)⟩, rfl⟩)))
          refine wpQuiet_nil ?_
          rintro w5 ⟨x, rfl⟩
          have hx := hbW.trans (x.h.mono hbW.size)
          clear u0 u1 u2 uA v0 v1 v2 vA
          go_wp2_with fail
          go_ret
          exact ⟨by rw [HF.out]; rfl, hx⟩
        cases okA
        · have HF := HFF.out (by cases ein <;> rfl)
          clear HFF HSS
          refine wp_region_calm W.heap.size (by kernel_rfl) (by kernel_rfl) ?_
          repeat (go_big_quiet_step (first
            | (rename_i x; go_at_call 46; refine (HL.out _).mono ?_; rintro e w5 ⟨rfl, hb5⟩; exact ⟨rfl, ⟨w5, x.h.trans (hb5.mono x.h.size)⟩, rfl⟩)
            | (rename_i x; go_at_call 47; refine (H1.out _).mono ?_; rintro e w6 ⟨rfl, rfl⟩; exact ⟨rfl, x, rfl⟩)
            | (rename_i x; go_at_call 47; refine (H2.out _).mono ?_; rintro e w6 ⟨rfl, rfl⟩; exact ⟨rfl, x, rfl⟩)
            | (rename_i x; go_at_call 48; refine (HP.out _ (Nat.lt_of_lt_of_le hbeW x.h.size) (HED.out.below x.h hbeW)).mono ?_; rintro e w5 ⟨rfl, hb5⟩; exact ⟨rfl, ⟨w5, x.h.trans (hb5.mono x.h.size)⟩, rfl⟩)))
          refine wpQuiet_nil ?_
          rintro w5 ⟨x, rfl⟩
          have hx := hbW.trans (x.h.mono hbW.size)
          clear u0 u1 u2 uA v0 v1 v2 vA
          go_wp2_with fail
          go_ret
          exact ⟨by rw [HF.out]; rfl, hx⟩
        cases okR
        · have HF := HFF.out (by cases ein <;> rfl)
          clear HFF HSS
          refine wp_region_calm W.heap.size (by kernel_rfl) (by kernel_rfl) ?_
          repeat (go_big_quiet_step (first
            | (rename_i x; go_at_call 46; refine (HL.out _).mono ?_; rintro e w5 ⟨rfl, hb5⟩; exact ⟨rfl, ⟨w5, x.h.trans (hb5.mono x.h.size)⟩, rfl⟩)
            | (rename_i x; go_at_call 47; refine (H1.out _).mono ?_; rintro e w6 ⟨rfl, rfl⟩; exact ⟨rfl, x, rfl⟩)
            | (rename_i x; go_at_call 47; refine (H2.out _).mono ?_; rintro e w6 ⟨rfl, rfl⟩; exact ⟨rfl, x, rfl⟩)
            | (rename_i x; go_at_call 48; refine (HP.out _ (Nat.lt_of_lt_of_le hbeW x.h.size) (HED.out.below x.h hbeW)).mono ?_; rintro e w5 ⟨rfl, hb5⟩; exact ⟨rfl, ⟨w5, x.h.trans (hb5.mono x.h.size)⟩, rfl⟩)))
          refine wpQuiet_nil ?_
          rintro w5 ⟨x, rfl⟩
          have hx := hbW.trans (x.h.mono hbW.size)
          clear u0 u1 u2 uA v0 v1 v2 vA
          go_wp2_with fail
          go_ret
          exact ⟨by rw [HF.out]; rfl, hx⟩
        cases ein
        · have HS := HSS.out rfl
          clear HFF HSS
          refine wp_region_calm W.heap.size (by kernel_rfl) (by kernel_rfl) ?_
          repeat (go_big_quiet_step (first
            | (rename_i x; go_at_call 46; refine (HL.out _).mono ?_; rintro e w5 ⟨rfl, hb5⟩; exact ⟨rfl, ⟨w5, x.h.trans (hb5.mono x.h.size)⟩, rfl⟩)
            | (rename_i x; go_at_call 47; refine (H1.out _).mono ?_; rintro e w6 ⟨rfl, rfl⟩; exact ⟨rfl, x, rfl⟩)
            | (rename_i x; go_at_call 47; refine (H2.out _).mono ?_; rintro e w6 ⟨rfl, rfl⟩; exact ⟨rfl, x, rfl⟩)
            | (rename_i x; go_at_call 48; refine (HP.out _ (Nat.lt_of_lt_of_le hbeW x.h.size) (HED.out.below x.h hbeW)).mono ?_; rintro e w5 ⟨rfl, hb5⟩; exact ⟨rfl, ⟨w5, x.h.trans (hb5.mono x.h.size)⟩, rfl⟩)))
          refine wpQuiet_nil ?_
          rintro w5 ⟨x, rfl⟩
          have hx := hbW.trans (x.h.mono hbW.size)
          have kp5 := (x.h.block w.heap.size hAW).trans kpW
          clear u0 u1 u2 uA v0 v1 v2 vA
          go_wp2_with fail
          have hs : len - (intOf (.int .i64 ((i' + 1 : Nat) : Int))).toNat < len - (intOf (.int .i64 (i' : Int))).toNat := by simp only [intOf, Int.toNat_natCast]; omega
          try rw [show wrap64 ((i' : Int) + 1) = ((i' + 1 : Nat) : Int) by have := HM.out; unfold wrap64; omega]
          exact ⟨⟨i' + 1, rfl, by omega, HS, kp5, hx⟩, hs⟩
        · have HF := HFF.out rfl
          clear HFF HSS
          refine wp_region_calm W.heap.size (by kernel_rfl) (by kernel_rfl) ?_
          repeat (go_big_quiet_step (first
            | (rename_i x; go_at_call 46; refine (HL.out _).mono ?_; rintro e w5 ⟨rfl, hb5⟩; exact ⟨rfl, ⟨w5, x.h.trans (hb5.mono x.h.size)⟩, rfl⟩)
            | (rename_i x; go_at_call 47; refine (H1.out _).mono ?_; rintro e w6 ⟨rfl, rfl⟩; exact ⟨rfl, x, rfl⟩)
            | (rename_i x; go_at_call 47; refine (H2.out _).mono ?_; rintro e w6 ⟨rfl, rfl⟩; exact ⟨rfl, x, rfl⟩)
            | (rename_i x; go_at_call 48; refine (HP.out _ (Nat.lt_of_lt_of_le hbeW x.h.size) (HED.out.below x.h hbeW)).mono ?_; rintro e w5 ⟨rfl, hb5⟩; exact ⟨rfl, ⟨w5, x.h.trans (hb5.mono x.h.size)⟩, rfl⟩)))
          refine wpQuiet_nil ?_
          rintro w5 ⟨x, rfl⟩
          have hx := hbW.trans (x.h.mono hbW.size)
          clear u0 u1 u2 uA v0 v1 v2 vA
          go_wp2_with fail
          go_ret
          exact ⟨by rw [HF.out]; rfl, hx⟩
      · have e : i' = len := by omega
        subst e
        have HR2 : Hid (ns.all (nodeHas es) = R) := by
          show _ = R
          rw [← HRR.out, HI.out, Bool.true_and]
        clear HRR HI hEx
        go_wp2_with fail
        clear pA pB
        go_loopw [54] (fun j wr => ∃ k : Nat, j = .int .i64 k ∧ k ≤ ln ∧ Hid ((ns.take k).all (nodeHas es) = true) ∧ wr.heap[w.heap.size]? = some (.cells #[.slice ae i' ce, .slice (some ⟨bt, 0, none⟩) ln cn] 25) ∧ Below w.heap.size w wr) (fun j _ => ln - (intOf j).toNat)
        case atStart => exact ⟨0, rfl, Nat.zero_le _, rfl, kp, hbx⟩
        case round =>
          clear kp hbx hAlt
          obtain ⟨k, rfl, hk, HI, kp, hbx⟩ := hrel
          have hAlt := heap_lt kp
          have pA := cell_of_heap kp 0
          have pB := cell_of_heap kp 1
          simp at pA pB
          by_cases hlt : (k : Int) < (ln : Int)
          · have hil : k < ns.length := by rw [Hlen.out.2]; omega
            have hNx := HN.out.below hbx hbt
            have c0 := hNx k hil 0 (by omega)
            have c1 := hNx k hil 1 (by omega)
            have c2 := hNx k hil 2 (by omega)
            have c3 := hNx k hil 3 (by omega)
            have c4 := hNx k hil 4 (by omega)
            have c5 := hNx k hil 5 (by omega)
            obtain ⟨nd, hnd⟩ : ∃ nd, ns.getD k default = nd := ⟨_, rfl⟩
            have hF : nodeHas es nd = false → Hid (R = false) := fun h => by
              show R = false
              rw [← HR2.out]
              exact has_false hil (by rw [hnd]; exact h)
            have hS : nodeHas es nd = true → Hid ((ns.take (k + 1)).all (nodeHas es) = true) := fun h => has_step hil HI.out (by rw [hnd]; exact h)
            rw [hnd] at c0 c1 c2 c3 c4 c5
            simp only [Nd.cell, Nat.add_zero, Nat.zero_add] at c0 c1 c2 c3 c4 c5
            obtain ⟨kd, num, a, bb, cc, kids⟩ := nd
            dsimp only at *
            have hszx := hbx.size
            have HP : Hid (∀ w', be < w'.heap.size → EffsAt w' be 0 es → _) := fun w' hb h => hasEff_calls ae ce es a w' (by rw [Hlen.out.1]; have := HM.out; omega) (fun h0 => ⟨be, 0, HAe.out.2 h0, hb, h⟩)
            rw [Hlen.out.1] at HP
            have HEx : Hid (EffsAt wr be 0 es) := HE.out.below hbx hbe
            have hbeR : be < wr.heap.size := by omega
            simp only [nodeHas] at hF hS
            clear hNx hil hnd HI
            generalize effIn es a = ein at *
            have hq : (kd == 22) = true ∨ ((kd == 22) = false ∧ (kd == 26) = true) ∨ ((kd == 22) = false ∧ (kd == 26) = false) := by
              cases (kd == 22) <;> cases (kd == 26) <;> simp
            rcases hq with k22 | ⟨k22, k26⟩ | ⟨k22, k26⟩
            · cases ein
              · have HF := hF (by rw [k22]; simp)
                clear hF hS
                go_wp2_with fail
                refine (HP.out _ (by simp; omega) (HEx.out.below ((Below.refl _ _).alloc (Nat.le_refl _) _) hbeR)).mono ?_
                rintro e w6 ⟨rfl, hb6⟩
                have hx6 := (hbx.alloc hszx _).trans (hb6.mono (by simp; omega))
                clear hb6
                go_wp2_with fail
                go_ret
                exact ⟨by rw [HF.out]; rfl, hx6⟩
              · have HS := hS (by simp)
                clear hF hS
                go_wp2_with fail
                refine (HP.out _ (by simp; omega) (HEx.out.below ((Below.refl _ _).alloc (Nat.le_refl _) _) hbeR)).mono ?_
                rintro e w6 ⟨rfl, hb6⟩
                have hx6 := (hbx.alloc hszx _).trans (hb6.mono (by simp; omega))
                have kp6 := (hb6.block w.heap.size (by simp; omega)).trans ((Below.heap_alloc _ _ _ hAlt).trans kp)
                clear hb6
                go_wp2_with fail
                have hs : ln - (intOf (.int .i64 ((k + 1 : Nat) : Int))).toNat < ln - (intOf (.int .i64 (k : Int))).toNat := by simp only [intOf, Int.toNat_natCast]; omega
                try rw [show wrap64 ((k : Int) + 1) = ((k + 1 : Nat) : Int) by have := HM.out; unfold wrap64; omega]
                exact ⟨⟨k + 1, rfl, by omega, HS, kp6, hx6⟩, hs⟩
            · cases ein
              · have HF := hF (by rw [k26]; simp)
                clear hF hS
                go_wp2_with fail
                refine (HP.out _ (by simp; omega) (HEx.out.below ((Below.refl _ _).alloc (Nat.le_refl _) _) hbeR)).mono ?_
                rintro e w6 ⟨rfl, hb6⟩
                have hx6 := (hbx.alloc hszx _).trans (hb6.mono (by simp; omega))
                clear hb6
                go_wp2_with fail
                go_ret
                exact ⟨by rw [HF.out]; rfl, hx6⟩
              · have HS := hS (by simp)
                clear hF hS
                go_wp2_with fail
                refine (HP.out _ (by simp; omega) (HEx.out.below ((Below.refl _ _).alloc (Nat.le_refl _) _) hbeR)).mono ?_
                rintro e w6 ⟨rfl, hb6⟩
                have hx6 := (hbx.alloc hszx _).trans (hb6.mono (by simp; omega))
                have kp6 := (hb6.block w.heap.size (by simp; omega)).trans ((Below.heap_alloc _ _ _ hAlt).trans kp)
                clear hb6
                go_wp2_with fail
                have hs : ln - (intOf (.int .i64 ((k + 1 : Nat) : Int))).toNat < ln - (intOf (.int .i64 (k : Int))).toNat := by simp only [intOf, Int.toNat_natCast]; omega
                try rw [show wrap64 ((k : Int) + 1) = ((k + 1 : Nat) : Int) by have := HM.out; unfold wrap64; omega]
                exact ⟨⟨k + 1, rfl, by omega, HS, kp6, hx6⟩, hs⟩
            · have HS := hS (by rw [k22, k26]; rfl)
              clear hF hS HP
              go_wp2_with fail
              have hs : ln - (intOf (.int .i64 ((k + 1 : Nat) : Int))).toNat < ln - (intOf (.int .i64 (k : Int))).toNat := by simp only [intOf, Int.toNat_natCast]; omega
              try rw [show wrap64 ((k : Int) + 1) = ((k + 1 : Nat) : Int) by have := HM.out; unfold wrap64; omega]
              exact ⟨⟨k + 1, rfl, by omega, HS, (Below.heap_alloc _ _ _ hAlt).trans kp, hbx.alloc hszx _⟩, hs⟩
          · have e : k = ln := by omega
            have HT : Hid (R = true) := by
              show R = true
              rw [← HR2.out]
              have := HI.out
              rwa [List.take_of_length_le (by rw [Hlen.out.2]; omega)] at this
            clear HI
            go_wp2_with fail
            go_ret
            exact ⟨by rw [HT.out]; rfl, hbx⟩
end Go.Proofs.YtkdipppeljpgmaaGreatDoor

/- The program's ProgRead. -/
namespace Go.Proofs.YtkdipppeljpgmaaGreatDoor
open Go.RowKit Go.Deep

/-- How the program tells it: in memory of its own. -/
def ReadOwn (r : Except (Int × Nat) (List Ef × Tr)) (W : World) (e : Ending) (W' : World) : Prop := match r with
  | .error x => e = .returned (.tuple #[.agg #[.slice none 0 0, .slice none 0 0], .agg #[.int .i64 x.1, .int .i64 (x.2 : Int)]]) ∧ Below W.heap.size W W'
  | .ok x => ∃ ve vt, e = .returned (.tuple #[.agg #[ve, vt], .agg #[.int .i64 0, .int .i64 0]]) ∧ W'.ownsRow W.heap.size 59 3 ve x.1.length (rowZ Ef.cell 3 x.1) ∧ W'.ownsRow W.heap.size 64 6 vt (Tr.flat x.2).length (rowZ Nd.cell 6 (Tr.flat x.2)) ∧ Below W.heap.size W W'

theorem read_end {X : World} {tm : Array Value} {B : Nat} {a b c e : Value} {R : Ending → World → Prop} (h2 : tm[2]?.getD undef = .pointer (some ⟨B, 0, none⟩)) (h3 : tm[3]?.getD undef = .pointer (some ⟨B + 1, 0, none⟩)) (hb : X.heap[B]? = some (.cells #[a, b] 25)) (hb3 : X.heap[B + 1]? = some (.cells #[c, e] 27)) (hR : R (.returned (.tuple #[.agg #[a, b], .agg #[c, e]])) X) :
    bodyPost Tryz.prog Tryz.f5 R .ret { tmps := tm, defers := [] } X := by
  have k20 := cell_of_heap hb 0
  have k21 := cell_of_heap hb 1
  have k30 := cell_of_heap hb3 0
  have k31 := cell_of_heap hb3 1
  simp at k20 k21 k30 k31
  exact bodyPost_ret (v := .tuple #[.agg #[a, b], .agg #[c, e]]) (by simp [results, Tryz.results5, go_sem, h2, h3, k20, k21, k30, k31]) rfl hR

theorem read_left (t : ByteArray) (T : List Nd → Bool) {ws : List Wd} {p : Nat} (h : lexAll t = (ws, 0, p)) : readZ t T = match leftI ws with
    | .error j => .error (5, (curI ws t.size j).at_)
    | .ok r => if 300 < (Tr.flat r.2).length ∨ 8 < r.1.length then .error (6, 0) else if 40 < r.2.2.deep + 1 then .error (7, 0) else if progZ r.1 (Tr.flat r.2) (T (Tr.flat r.2)) = true then .ok r else .error (8, 0) := by
  unfold readZ leftI
  rw [h]
  dsimp only
  rw [if_neg (by simp)]
  cases hI : wholeI ws with
  | error j =>
    dsimp only
    unfold curI
    split <;> rfl
  | ok r =>
    dsimp only
    by_cases hl : r.2 < ws.length
    · rw [if_pos hl, if_pos hl]
      dsimp only
      unfold curI
      rw [if_pos hl]
    · rw [if_neg hl, if_neg hl]

/-- Names that are read are short. -/
theorem effs_brief {ws : List Wd} (hw : BriefW ws) : ∀ (f : Nat) (es : List Ef), (∀ x ∈ es, Brief x.name) → AllI (fun l : List Ef => ∀ x ∈ l, Brief x.name) (effsI ws f es)
  | 0, es, h => AllI.pure h
  | f + 1, es, h => by
    have hn : AllI (fun n : ByteArray => Brief n) (nameI ws) := fun i r hr => by
      unfold nameI at hr
      split at hr
      · rename_i hc
        cases hr
        exact hw _ (cur_mem hc.1)
      · cases hr
    refine AllI.or (hn.bind fun n hn => AllI.skip fun _ => AllI.skip fun a => AllI.skip fun _ => AllI.skip fun r => AllI.skip fun _ => effs_brief hw f _ (fun x hx => ?_)) (AllI.pure h)
    rw [List.mem_append, List.mem_singleton] at hx
    rcases hx with hx | rfl
    · exact h x hx
    · exact hn

/-- Nothing reads past the last word. -/
def PosI {α : Type} (ws : List Wd) (p : PI α) : Prop := ∀ i r, i ≤ ws.length → p i = .ok r → r.2 ≤ ws.length

section
variable {ws : List Wd} {α β : Type}

theorem PosI.bind {p : PI α} {k : α → PI β} (h : PosI ws p) (hk : ∀ a, PosI ws (k a)) : PosI ws (bindI p k) := fun i r hi hr => by
  cases h1 : p i with
  | error e => exact absurd (bi_er hr h1) (by simp)
  | ok x => exact hk x.1 x.2 r (h i x hi h1) (bi_ok hr h1)

theorem PosI.pure (a : α) : PosI ws (pureI a) := fun i r hi hr => by
  cases hr
  exact hi

theorem sees_on {i : Nat} {l : List UInt8} (h : seesI ws i l = true) : i + 1 ≤ ws.length := by
  unfold seesI at h
  simp at h
  exact h.1

theorem PosI.or {l : List UInt8} {p q : PI α} (h1 : PosI ws p) (h2 : PosI ws q) : PosI ws (orI ws l p q) := fun i r hi hr => by
  cases hz : seesI ws i l with
  | true => exact h1 (i + 1) r (sees_on hz) (oi_t hr hz)
  | false => exact h2 i r hi (oi_f hr hz)

theorem PosI.take (l : List UInt8) : PosI ws (takeI ws l) := fun i r hi hr => by
  unfold takeI at hr
  split at hr
  · rename_i hz
    cases hr
    exact sees_on hz
  · cases hr

theorem PosI.name : PosI ws (nameI ws) := fun i r hi hr => by
  unfold nameI at hr
  split at hr
  · rename_i hc
    cases hr
    exact hc.1
  · cases hr

theorem PosI.base : PosI ws (baseI ws) := .or (.pure _) (.or (.pure _) (.or (.pure _) (.or (.pure _) (fun i r hi hr => by cases hr))))

theorem effs_pos : ∀ (f : Nat) (es : List Ef), PosI ws (effsI ws f es)
  | 0, es => .pure es
  | f + 1, es => .or (.bind .name fun _ => .bind (.take _) fun _ => .bind .base fun _ => .bind (.take _) fun _ => .bind .base fun _ => .bind (.take _) fun _ => effs_pos f _) (.pure es)
end

structure ReadOk (ws : List Wd) (es : List Ef) (t : Tr) : Prop where
  tr : TrOk t
  bare : BareT t
  names : ∀ x ∈ es, Brief x.name
  nodes : BriefN (Tr.flat t)
  len : (Tr.flat t).length ≤ 3 * ws.length + 10

theorem left_ok {ws : List Wd} {es : List Ef} {t : Tr} (hw : BriefW ws) (ho : WordsOk ws) (h : leftI ws = .ok (es, t)) : ReadOk ws es t := by
  unfold leftI at h
  cases hI : wholeI ws with
  | error j => rw [hI] at h; cases h
  | ok r =>
    rw [hI] at h
    dsimp only at h
    split at h
    · cases h
    · have e : r.1 = (es, t) := by simpa using h
      have h1 := whole_ok hI
      have h2 := whole_bare hI
      rw [e] at h1 h2
      have hI2 := hI
      unfold wholeI bindI at hI2
      cases hE : effsI ws (ws.length + 1) [] 0 with
      | error j => rw [hE] at hI2; cases hI2
      | ok x =>
        rw [hE] at hI2
        dsimp only at hI2
        have h3 := effs_brief hw (ws.length + 1) [] (fun x hx => by cases hx) 0 x hE
        cases hP : ipz ws (16 * ws.length + 11) .expr x.2 with
        | error j => rw [hP] at hI2; cases hI2
        | ok y =>
          rw [hP] at hI2
          have e2 : r = ((x.1, y.1), y.2) := by cases hI2; rfl
          rw [e2] at e
          simp only [Prod.mk.injEq] at e
          rw [e.1] at h3
          have hal := (parse_alike ho (16 * ws.length + 11) NtR.expr).same x.2
          rw [hP] at hal
          obtain ⟨a, ha, hf⟩ := hal
          obtain ⟨c, g1, g2, g3, g4⟩ := (part_m hw (16 * ws.length + 11)).at .expr trivial (by simp) ⟨x.2, false⟩ (effs_pos _ _ 0 x (Nat.zero_le _) hE)
          rw [ha] at g1 g3 g4
          have hfl : a = Tr.flat y.1 := hf
          rw [hfl, e.2] at g3 g4
          refine ⟨h1, h2, h3, g4, ?_⟩
          dsimp only [accN] at g3 g2
          omega

theorem nodes_own {X : World} {B : Nat} {ad : Option Addr} {cp : Nat} {ns : List Nd} (h : X.ownsRow B 64 6 (.slice ad ns.length cp) ns.length (rowZ Nd.cell 6 ns)) (h0 : 0 < ns.length) : ∃ b, ad = some ⟨b, 0, none⟩ ∧ b < X.heap.size ∧ ns.length ≤ cp ∧ NodesAt X b 0 ns := by
  have h' := h
  obtain ⟨-, ⟨-, hn⟩ | ⟨g, cap, cur, e, hB, hc, hn, -⟩⟩ := h
  · omega
  · cases e
    refine ⟨g, rfl, heap_lt hc, hn, fun i hi c hc' => ?_⟩
    have e1 := h'.cellAt (i * 6 + c) (by omega)
    rw [rowZ_get Nd.cell 6 (by decide) ns _ (by omega), cell_div ns Nd.cell 6 i c hc'] at e1
    rw [Nat.zero_add]
    exact e1

theorem effs_own {X : World} {B q : Nat} {ad : Option Addr} {cp : Nat} {es : List Ef} (h : X.ownsRow B 59 3 (.slice ad es.length cp) es.length (rowZ Ef.cell 3 es)) (hq : q < X.heap.size) : ∃ b, (es ≠ [] → ad = some ⟨b, 0, none⟩) ∧ b < X.heap.size ∧ es.length ≤ cp ∧ EffsAt X b 0 es := by
  have h' := h
  obtain ⟨-, ⟨-, hn⟩ | ⟨g, cap, cur, e, hB, hc, hn, -⟩⟩ := h
  · exact ⟨q, fun h => absurd (List.eq_nil_of_length_eq_zero hn) h, hq, by omega, fun i hi => by omega⟩
  · cases e
    refine ⟨g, fun _ => rfl, heap_lt hc, hn, fun i hi c hc' => ?_⟩
    have e1 := h'.cellAt (i * 3 + c) (by omega)
    rw [rowZ_get Ef.cell 3 (by decide) es _ (by omega), cell_div es Ef.cell 3 i c hc'] at e1
    rw [Nat.zero_add]
    exact e1

set_option maxHeartbeats 8000000 in
set_option maxRecDepth 100000 in
theorem implRead_calls (t : ByteArray) (T : List Nd → Bool) (hT : ∀ ns, ImplAns ns (T ns)) (W : World) :
    Calls Tryz.prog 5 #[.string t] W fun e W' => ReadOwn (readZ t T) W e W' := by
  have HT := hid hT
  obtain ⟨R, hR⟩ : ∃ R, readZ t T = R := ⟨_, rfl⟩
  rw [hR]
  have HR := hid hR
  clear hT hR
  go_enter Tryz.func5, Tryz.ntmps5
  go_wp2_with fail
  obtain ⟨hA, hA2, hA3, hA4⟩ := two_blocks W (.cells #[.slice none 0 0, .slice none 0 0] 25) (.cells #[.int .i64 0, .int .i64 0] 27)
  refine (implWords_calls t _).mono ?_
  rintro e w1 ⟨⟨v, rfl, hrow⟩, hb1⟩
  obtain ⟨ws, c, p, hL⟩ : ∃ ws c p, lexAll t = (ws, c, p) := ⟨_, _, _, rfl⟩
  have HWs := hid (And.intro (lexAll_brief t) (And.intro (lexAll_num t) (And.intro (lexAll_words t) (And.intro (lexAll_ne t) (lexAll_ok t).2))))
  rw [hL] at hrow HWs ⊢
  dsimp only at hrow ⊢
  have HLx := hid hL
  have HRow := hid hrow
  have B2 := hid ((hb1.block _ (by omega)).trans hA2)
  have B3 := hid ((hb1.block _ (by omega)).trans hA3)
  have HB := hid (hA.trans (hb1.mono hA.size))
  have HN := hid (show W.heap.size + 2 ≤ w1.heap.size from by have := hb1.size; omega)
  clear hL hrow hb1 hA hA2 hA3 hA4
  by_cases hc : c = 0
  case neg =>
    have hcb : (c == 0) = false := by simpa using hc
    have hRR : R = .error (c, p) := by
      rw [← HR.out]
      unfold readZ
      rw [HLx.out, if_pos (show c ≠ 0 from hc)]
    have HRR := hid hRR
    clear hRR
    go_upto_region 3 with fail
    have hx := (Below.refl w1.heap.size w1).alloc (Nat.le_refl _) (.cells #[.int .i64 c, .int .i64 (p : Int)] 27)
    have hy := (MapKept.heap_alloc w1 (.cells #[.int .i64 c, .int .i64 (p : Int)] 27)).1
    have hn := HN.out
    have b2 := (hx.block _ (by omega)).trans B2.out
    have b3 := (hx.block _ (by omega)).trans B3.out
    have hB := HB.out.trans (hx.mono HB.out.size)
    generalize w1.alloc (.cells #[.int .i64 c, .int .i64 (p : Int)] 27) = w2 at hx hy b2 b3 hB ⊢
    generalize w1.heap.size = g5 at hy hn ⊢
    have HB2 := hid hB
    have K2 := hid b2
    have K3 := hid b3
    have g20 := cell_of_heap b2 0
    have g21 := cell_of_heap b2 1
    have g30 := cell_of_heap b3 0
    have g31 := cell_of_heap b3 1
    have g50 := cell_of_heap hy 0
    have g51 := cell_of_heap hy 1
    have f20 := frozen_of_heap b2 0
    have f21 := frozen_of_heap b2 1
    have f30 := frozen_of_heap b3 0
    have f31 := frozen_of_heap b3 1
    simp at g20 g21 g30 g31 g50 g51
    have e1 : W.heap.size ≠ g5 := by omega
    have e2 : W.heap.size + 1 ≠ g5 := by omega
    clear hx hy hn b2 b3 hB hc hcb
    go_region
    go_wp2_with fail
    obtain ⟨r2, r3, rB, -⟩ := set4_is (.slice none 0 0) (.slice none 0 0) (.int .i64 c) (.int .i64 (p : Int)) K2.out K3.out
    unfold set4 at r2 r3 rB
    refine read_end rfl rfl r2 r3 ?_
    rw [HRR.out]
    exact ⟨rfl, HB2.out.trans rB.drew⟩
  case pos =>
    subst hc
    obtain ⟨ad, cpw, rfl⟩ := y_is HRow.out
    have HZ := hid (HR.out.symm.trans (read_left t T HLx.out))
    go_wp2_with fail
    have hx := (Below.refl w1.heap.size w1).alloc (Nat.le_refl _) (.cells #[.int .i64 0, .int .i64 (p : Int)] 27)
    have hy := (MapKept.heap_alloc w1 (.cells #[.int .i64 0, .int .i64 (p : Int)] 27)).1
    have hn := HN.out
    have b2 := (hx.block _ (by omega)).trans B2.out
    have b3 := (hx.block _ (by omega)).trans B3.out
    have hB := HB.out.trans (hx.mono HB.out.size)
    have hrw := owns_below HRow.out hx
    generalize w1.alloc (.cells #[.int .i64 0, .int .i64 (p : Int)] 27) = w2 at hx hy b2 b3 hB hrw ⊢
    have hgl := hx.size
    generalize w1.heap.size = g5 at hy hn hgl ⊢
    have hli : ∀ d : Dr, w2.heap.size ≤ d.B → w2.heap.size ≤ d.G → Lies d w2 (.slice ad ws.length cpw) ws.length 3 (fun i => wdC (ws.getD (i / 3) default) (i % 3)) := fun d h1 h2 => by
      rw [flatW_row] at hrw
      exact lies_old (d := d) (f := wdC) (by decide) hrw h1 h2
    have hcall := readWords_calls (sz := t.size) HWs.out.1 HWs.out.2.2.1 HWs.out.2.1 HWs.out.2.2.2.1 HWs.out.2.2.2.2 w2 hli
    have HCall := hid hcall
    have G5 := hid hy
    have K2 := hid b2
    have K3 := hid b3
    have HB2 := hid hB
    have HNe := hid (show W.heap.size + 2 ≤ g5 ∧ g5 < w2.heap.size from ⟨hn, heap_lt hy⟩)
    clear hx hy hn b2 b3 hB hgl hli hcall hrw
    refine HCall.out.mono ?_
    intro e X1 hp
    clear HCall
    cases hI : leftI ws with
    | error j =>
      rw [hI] at hp
      obtain ⟨v1, v2, rfl, hb⟩ := hp
      unfold faultV
      obtain ⟨pl, hpl⟩ : ∃ x, (curI ws t.size j).at_ = x := ⟨_, rfl⟩
      have hRR : R = .error (5, pl) := by
        rw [HZ.out, hI, ← hpl]
      have HRR := hid hRR
      rw [hpl]
      have G5 := hid ((hb.block _ HNe.out.2).trans G5.out)
      have K2 := hid ((hb.block _ (by have := HNe.out; omega)).trans K2.out)
      have K3 := hid ((hb.block _ (by have := HNe.out; omega)).trans K3.out)
      have HB3 := hid (HB2.out.trans (hb.mono HB2.out.size))
      have c50 := cell_of_heap G5.out 0
      have c51 := cell_of_heap G5.out 1
      have z50 := frozen_of_heap G5.out 0
      have z51 := frozen_of_heap G5.out 1
      simp at c50 c51
      clear hpl hRR hb hI
      go_upto_region 6 with fail
      have hne := HNe.out
      have G6 := hid (set_block (i := 1) (.int .i64 (pl : Int)) (set_block (i := 0) (.int .i64 5) G5.out))
      have kk : ∀ q, q ≠ g5 → ((X1.setCell ⟨g5, 0, none⟩ (.int .i64 5)).setCell ⟨g5, 1, none⟩ (.int .i64 (pl : Int))).heap[q]? = X1.heap[q]? := fun q hq => (Below.heap_setCell _ ⟨g5, 1, none⟩ _ q hq).trans (Below.heap_setCell _ ⟨g5, 0, none⟩ _ q hq)
      have b2 := (kk W.heap.size (by omega)).trans K2.out
      have b3 := (kk (W.heap.size + 1) (by omega)).trans K3.out
      have hB := (HB3.out.setCell (p := ⟨g5, 0, none⟩) (by dsimp only; omega) (.int .i64 5)).setCell (p := ⟨g5, 1, none⟩) (by dsimp only; omega) (.int .i64 (pl : Int))
      generalize (X1.setCell ⟨g5, 0, none⟩ (.int .i64 5)).setCell ⟨g5, 1, none⟩ (.int .i64 (pl : Int)) = X2 at G6 b2 b3 hB ⊢
      have HB4 := hid hB
      have L2 := hid b2
      have L3 := hid b3
      have g20 := cell_of_heap b2 0
      have g21 := cell_of_heap b2 1
      have g30 := cell_of_heap b3 0
      have g31 := cell_of_heap b3 1
      have g50 := cell_of_heap G6.out 0
      have g51 := cell_of_heap G6.out 1
      have f20 := frozen_of_heap b2 0
      have f21 := frozen_of_heap b2 1
      have f30 := frozen_of_heap b3 0
      have f31 := frozen_of_heap b3 1
      simp at g20 g21 g30 g31 g50 g51
      have e1 : W.heap.size ≠ g5 := by omega
      have e2 : W.heap.size + 1 ≠ g5 := by omega
      clear kk b2 b3 hB hne c50 c51 z50 z51
      go_region
      go_wp2_with fail
      obtain ⟨r2, r3, rB, -⟩ := set4_is (.slice none 0 0) (.slice none 0 0) (.int .i64 5) (.int .i64 (pl : Int)) L2.out L3.out
      unfold set4 at r2 r3 rB
      refine read_end rfl rfl r2 r3 ?_
      rw [HRR.out]
      exact ⟨rfl, HB4.out.trans rB.drew⟩
    | ok r =>
      obtain ⟨es, tr⟩ := r
      rw [hI] at hp
      obtain ⟨ve, T2, p2, lo, hi, rfl, hown, hfm, hlo, hb⟩ := hp
      have HOk := hid (left_ok HWs.out.1 HWs.out.2.2.1 hI)
      have HZ := hid (HZ.out.trans (by rw [hI]))
      dsimp only at HZ
      obtain ⟨ade, cpe, hve⟩ := y_is hown
      subst hve
      have G5 := hid ((hb.block _ HNe.out.2).trans G5.out)
      have K2 := hid ((hb.block _ (by have := HNe.out; omega)).trans K2.out)
      have K3 := hid ((hb.block _ (by have := HNe.out; omega)).trans K3.out)
      have HBB := hid (HB2.out.trans (hb.mono HB2.out.size))
      have c50 := cell_of_heap G5.out 0
      have c51 := cell_of_heap G5.out 1
      have z50 := frozen_of_heap G5.out 0
      have z51 := frozen_of_heap G5.out 1
      simp at c50 c51
      have HOw := hid hown
      have HFm := hid (And.intro hfm hlo)
      have HSz := hid hb.size
      clear hb hI hown hfm hlo HB2
      go_upto_region 7 with fail
      have hne := HNe.out
      have kk : ∀ q, q ≠ g5 → ((X1.setCell ⟨g5, 0, none⟩ (.int .i64 0)).setCell ⟨g5, 1, none⟩ (.int .i64 0)).heap[q]? = X1.heap[q]? := fun q hq => (Below.heap_setCell _ ⟨g5, 1, none⟩ _ q hq).trans (Below.heap_setCell _ ⟨g5, 0, none⟩ _ q hq)
      have K2 := hid ((kk W.heap.size (by omega)).trans K2.out)
      have K3 := hid ((kk (W.heap.size + 1) (by omega)).trans K3.out)
      have HBB := hid ((HBB.out.setCell (p := ⟨g5, 0, none⟩) (by dsimp only; omega) (.int .i64 0)).setCell (p := ⟨g5, 1, none⟩) (by dsimp only; omega) (.int .i64 0))
      have HOw := hid (y_same HOw.out (fun g hg => kk g (by have := (HOw.out.lt g hg).1; omega)))
      have HFm := hid (And.intro (HFm.out.1.keep (Nat.le_trans HFm.out.1.top (by simp [World.setCell])) (fun q hq _ => kk q (by have := HFm.out.2; omega))) HFm.out.2)
      have hsz2 : X1.heap.size = ((X1.setCell ⟨g5, 0, none⟩ (.int .i64 0)).setCell ⟨g5, 1, none⟩ (.int .i64 0)).heap.size := by simp [World.setCell]
      have HSz := hid (show w2.heap.size ≤ ((X1.setCell ⟨g5, 0, none⟩ (.int .i64 0)).setCell ⟨g5, 1, none⟩ (.int .i64 0)).heap.size by rw [← hsz2]; exact HSz.out)
      generalize (X1.setCell ⟨g5, 0, none⟩ (.int .i64 0)).setCell ⟨g5, 1, none⟩ (.int .i64 0) = X2 at K2 K3 HBB HOw HFm HSz ⊢
      clear kk hne hsz2 c50 c51 z50 z51 G5
      obtain ⟨v2, us, rest, hv2, hF, hS, -⟩ := HFm.out.1.forms
      obtain ⟨rfl, rfl⟩ : .iface T2 p2 = v2 ∧ rest = [] := by simp at hv2; exact ⟨hv2.1, hv2.2⟩
      have hadd := add_calls X2 (tr.2.flat.length + 1) lo tr.1 tr.2 us _ (.slice none 0 0) [] X2 hF hS HOk.out.tr.1 HOk.out.tr.2 HOk.out.bare.1 HOk.out.bare.2 (Below.refl _ _) ⟨rfl, Or.inl ⟨rfl, rfl⟩⟩ (by have h1 := HOk.out.len; have h2 := HWs.out.2.2.2.2; simp only [Tr.flat, List.length_cons] at h1; simp; omega) (Nat.lt_succ_self _)
      have HAdd := hid hadd
      have HF := hid (And.intro hF hS)
      clear hadd hF hS hv2
      go_wp2_with fail
      refine HAdd.out.mono ?_
      rintro e X3 ⟨vt, rfl, hown3, hgr3, -⟩
      obtain ⟨adt, cpt, hvt⟩ := y_is hown3
      subst hvt
      have hb3 : Below X2.heap.size X2 X3 := ⟨hgr3.os, hgr3.tape, hgr3.output, hgr3.size, fun q hq => hgr3.block q hq (by simp [Value.ownBlock])⟩
      have hfl : [] ++ tr.1 :: tr.2.flat = Tr.flat tr := rfl
      rw [hfl] at hown3
      have HOt := hid hown3
      have HOw := hid (owns_below HOw.out hb3)
      have K2 := hid ((hb3.block _ (heap_lt K2.out)).trans K2.out)
      have K3 := hid ((hb3.block _ (heap_lt K3.out)).trans K3.out)
      have HBB := hid (HBB.out.trans (hb3.mono HBB.out.size))
      have HF := hid (And.intro (HF.out.1.below hb3) (HF.out.2.below hb3))
      have HSz3 := hid hb3.size
      rw [hfl]
      clear hown3 hgr3 hb3 hfl HAdd
      obtain ⟨L, hL⟩ : ∃ L, (Tr.flat tr).length = L := ⟨_, rfl⟩
      rw [hL]
      have HLn := hid hL
      clear hL
      have hb4 := (Below.refl X3.heap.size X3).alloc (Nat.le_refl _) (.cells #[.slice ade es.length cpe, .slice adt L cpt] 25)
      have PB := hid (MapKept.heap_alloc X3 (.cells #[.slice ade es.length cpe, .slice adt L cpt] 25)).1
      have HOt := hid (owns_below HOt.out hb4)
      have HOw := hid (owns_below HOw.out hb4)
      have K2 := hid ((hb4.block _ (heap_lt K2.out)).trans K2.out)
      have K3 := hid ((hb4.block _ (heap_lt K3.out)).trans K3.out)
      have HBB := hid (HBB.out.trans (hb4.mono HBB.out.size))
      have HF := hid (And.intro (HF.out.1.below hb4) (HF.out.2.below hb4))
      clear hb4
      go_upto_region 8 with fail
      obtain ⟨X4, hX4⟩ : ∃ Y, X3.alloc (.cells #[.slice ade es.length cpe, .slice adt L cpt] 25) = Y := ⟨_, rfl⟩
      rw [hX4] at PB HOt HOw K2 K3 HBB HF ⊢
      obtain ⟨g8, hg8⟩ : ∃ g, X3.heap.size = g := ⟨_, rfl⟩
      have HN8 := hid (show W.heap.size + 2 ≤ g8 by have h1 := HNe.out; have h2 := HSz.out; have h3 := HSz3.out; omega)
      rw [hg8] at PB ⊢
      clear hX4 hg8
      have c0 := cell_of_heap PB.out 0
      have c1 := cell_of_heap PB.out 1
      have g20 := cell_of_heap K2.out 0
      have g21 := cell_of_heap K2.out 1
      have g30 := cell_of_heap K3.out 0
      have g31 := cell_of_heap K3.out 1
      have f20 := frozen_of_heap K2.out 0
      have f21 := frozen_of_heap K2.out 1
      have f30 := frozen_of_heap K3.out 0
      have f31 := frozen_of_heap K3.out 1
      simp at c0 c1 g20 g21 g30 g31
      by_cases hm : (300 : Int) < (L : Int)
      · have hRR : R = .error (6, 0) := by
          rw [HZ.out, if_pos (Or.inl (by rw [HLn.out]; omega))]
        have HRR := hid hRR
        clear hRR
        go_wp2_with fail
        obtain ⟨r2, r3, rB, -⟩ := set4_is (.slice none 0 0) (.slice none 0 0) (.int .i64 6) (.int .i64 0) K2.out K3.out
        unfold set4 at r2 r3 rB
        refine read_end rfl rfl r2 r3 ?_
        rw [HRR.out]
        exact ⟨rfl, HBB.out.trans rB⟩
      by_cases hm2 : (8 : Int) < (es.length : Int)
      · have hRR : R = .error (6, 0) := by
          rw [HZ.out, if_pos (Or.inr (by omega))]
        have HRR := hid hRR
        clear hRR
        go_wp2_with fail
        obtain ⟨r2, r3, rB, -⟩ := set4_is (.slice none 0 0) (.slice none 0 0) (.int .i64 6) (.int .i64 0) K2.out K3.out
        unfold set4 at r2 r3 rB
        refine read_end rfl rfl r2 r3 ?_
        rw [HRR.out]
        exact ⟨rfl, HBB.out.trans rB⟩
      have HM := hid (And.intro hm hm2)
      have HZ := hid (HZ.out.trans (by rw [if_neg (by rw [HLn.out]; omega)]))
      have hlt : tr.2.flat.length + 1 = L := by rw [← HLn.out]; simp [Tr.flat]
      have hdp := deepOf_calls (tr.2.flat.length + 1) lo tr.1 tr.2 us _ X4 HF.out.1 HF.out.2 (by omega) (Nat.lt_succ_self _)
      have HDp := hid hdp
      obtain ⟨D, hD⟩ : ∃ D, tr.2.deep + 1 = D := ⟨_, rfl⟩
      rw [hD] at HDp
      have HD := hid hD
      clear hD hdp hlt
      go_wp2_with fail
      refine HDp.out.mono ?_
      rintro e X5 ⟨rfl, hb5⟩
      have PB := hid ((hb5.block _ (heap_lt PB.out)).trans PB.out)
      have HOt := hid (owns_below HOt.out hb5)
      have HOw := hid (owns_below HOw.out hb5)
      have K2 := hid ((hb5.block _ (heap_lt K2.out)).trans K2.out)
      have K3 := hid ((hb5.block _ (heap_lt K3.out)).trans K3.out)
      have HBB := hid (HBB.out.trans (hb5.mono HBB.out.size))
      clear hb5 HDp HF c0 c1 g20 g21 g30 g31 f20 f21 f30 f31
      have c0 := cell_of_heap PB.out 0
      have c1 := cell_of_heap PB.out 1
      have g20 := cell_of_heap K2.out 0
      have g21 := cell_of_heap K2.out 1
      have g30 := cell_of_heap K3.out 0
      have g31 := cell_of_heap K3.out 1
      have f20 := frozen_of_heap K2.out 0
      have f21 := frozen_of_heap K2.out 1
      have f30 := frozen_of_heap K3.out 0
      have f31 := frozen_of_heap K3.out 1
      simp at c0 c1 g20 g21 g30 g31
      by_cases hdm : (40 : Int) < (D : Int)
      · have hRR : R = .error (7, 0) := by
          rw [HZ.out, if_pos (by rw [HD.out]; omega)]
        have HRR := hid hRR
        clear hRR
        go_wp2_with fail
        obtain ⟨r2, r3, rB, -⟩ := set4_is (.slice none 0 0) (.slice none 0 0) (.int .i64 7) (.int .i64 0) K2.out K3.out
        unfold set4 at r2 r3 rB
        refine read_end rfl rfl r2 r3 ?_
        rw [HRR.out]
        exact ⟨rfl, HBB.out.trans rB⟩
      have HZ := hid (HZ.out.trans (by rw [if_neg (by rw [HD.out]; omega)]))
      obtain ⟨bt, hadt, hbt, hcpt, hNA⟩ := nodes_own HOt.out (by rw [HLn.out]; have h1 := HLn.out; simp [Tr.flat] at h1; omega)
      obtain ⟨be, hae, hbe, hce, hEA⟩ := effs_own HOw.out hbt
      have hok := implProgC_calls ade be bt cpe cpt es (Tr.flat tr) (T (Tr.flat tr)) X5 hce hae hbe hbt hEA hNA (by have := HM.out.2; omega) (by rw [HLn.out]; have := HM.out.1; omega) (fun x hx => by have := HOk.out.names x hx; unfold Brief at this; unfold maxLen; omega) (fun w' h1 h2 => implTree_calls bt 0 cpt (Tr.flat tr) w' (T (Tr.flat tr)) (by rw [HLn.out]; have := HM.out.1; omega) h1 h2 (fun n hn => by
        obtain ⟨g1, g2, g3⟩ := HOk.out.nodes n hn
        unfold Brief at g1 g2 g3
        unfold maxLen
        omega) (HT.out (Tr.flat tr)))
      subst hadt
      obtain ⟨P, hP⟩ : ∃ P, progZ es (Tr.flat tr) (T (Tr.flat tr)) = P := ⟨_, rfl⟩
      rw [hP] at HZ hok
      rw [HLn.out] at hok
      have HOkc := hid hok
      clear hP hok hNA hEA hae hbe hce hcpt hbt
      go_wp2_with fail
      refine HOkc.out.mono ?_
      rintro e X6 ⟨rfl, hb6⟩
      have PB := hid ((hb6.block _ (heap_lt PB.out)).trans PB.out)
      have HOt := hid (owns_below HOt.out hb6)
      have HOw := hid (owns_below HOw.out hb6)
      have K2 := hid ((hb6.block _ (heap_lt K2.out)).trans K2.out)
      have K3 := hid ((hb6.block _ (heap_lt K3.out)).trans K3.out)
      have HBB := hid (HBB.out.trans (hb6.mono HBB.out.size))
      clear hb6 HOkc c0 c1 g20 g21 g30 g31 f20 f21 f30 f31
      have c0 := cell_of_heap PB.out 0
      have c1 := cell_of_heap PB.out 1
      have g20 := cell_of_heap K2.out 0
      have g21 := cell_of_heap K2.out 1
      have g30 := cell_of_heap K3.out 0
      have g31 := cell_of_heap K3.out 1
      have f20 := frozen_of_heap K2.out 0
      have f21 := frozen_of_heap K2.out 1
      have f30 := frozen_of_heap K3.out 0
      have f31 := frozen_of_heap K3.out 1
      simp at c0 c1 g20 g21 g30 g31
      cases P with
      | false =>
        have HRR := hid (HZ.out.trans (show (if false = true then (Except.ok (es, tr) : Except (Int × Nat) (List Ef × Tr)) else .error (8, 0)) = .error (8, 0) from rfl))
        go_wp2_with fail
        obtain ⟨r2, r3, rB, -⟩ := set4_is (.slice none 0 0) (.slice none 0 0) (.int .i64 8) (.int .i64 0) K2.out K3.out
        unfold set4 at r2 r3 rB
        refine read_end rfl rfl r2 r3 ?_
        rw [HRR.out]
        exact ⟨rfl, HBB.out.trans rB⟩
      | true =>
        have HRR := hid (HZ.out.trans (show (if true = true then (Except.ok (es, tr) : Except (Int × Nat) (List Ef × Tr)) else .error (8, 0)) = .ok (es, tr) from rfl))
        go_wp2_with fail
        obtain ⟨r2, r3, rB, rO⟩ := set4_is (.slice ade es.length cpe) (.slice (some ⟨bt, 0, none⟩) L cpt) (.int .i64 0) (.int .i64 0) K2.out K3.out
        unfold set4 at r2 r3 rB rO
        refine read_end rfl rfl r2 r3 ?_
        rw [HRR.out]
        have h1 := HNe.out
        have h2 := HSz.out
        refine ⟨_, _, rfl, own_mono (y_same HOw.out (fun g hg => rO g (by have := (HOw.out.lt g hg).1; omega) (by have := (HOw.out.lt g hg).1; omega))) (by omega), ?_, HBB.out.trans rB⟩
        have hOt := HOt.out
        rw [HLn.out] at hOt
        show World.ownsRow _ _ _ _ _ (Tr.flat tr).length _
        rw [HLn.out]
        exact own_mono (y_same hOt (fun g hg => rO g (by have := (hOt.lt g hg).1; omega) (by have := (hOt.lt g hg).1; omega))) (by omega)
end Go.Proofs.YtkdipppeljpgmaaGreatDoor

/- A program that is handed in: its operations and its tree, read as plain values; what the laws' helpers do to it. -/
namespace Go.Proofs.YtkdipppeljpgmaaGreatDoor
open Go.RowKit Go.Deep Go.ChangeShapes Go.WideShapes

def EffSlice (w : World) (v : Value) (ns : List Ef) : Prop :=
  ∃ a cap, v = .slice a ns.length cap ∧ (ns = [] ∨ ∃ b off, a = some ⟨b, off, none⟩ ∧ b < w.heap.size ∧ EffsAt w b off ns)

theorem EffSlice.below {w w' : World} {v : Value} {ns : List Ef} (h : EffSlice w v ns) (hb : Below w.heap.size w w') : EffSlice w' v ns := by
  obtain ⟨a, cap, rfl, h⟩ := h
  refine ⟨a, cap, rfl, h.imp id ?_⟩
  rintro ⟨b, off, rfl, hlt, hn⟩
  exact ⟨b, off, rfl, Nat.lt_of_lt_of_le hlt hb.size, hn.below hb hlt⟩

section
variable {H : Type} {enc : TypeId × Value → H} {W : World} {sp : Nat → Bool} {held : Bool}

end

set_option maxRecDepth 100000 in
theorem eqProg_calls (be bt be' bt' : Nat) (es : List Ef) (ns : List Nd) (w : World) (h1 : be < w.heap.size) (h2 : bt < w.heap.size) (h3 : be' < w.heap.size) (h4 : bt' < w.heap.size) (e1 : EffsAt w be 0 es) (e2 : NodesAt w bt 0 ns) (e3 : EffsAt w be' 0 es) (e4 : NodesAt w bt' 0 ns) (m0 : es.length ≤ 1048576) (m1 : ns.length ≤ 1048576) :
    Calls Tryz.prog 6 #[.agg #[.slice (some ⟨be, 0, none⟩) es.length es.length, .slice (some ⟨bt, 0, none⟩) ns.length ns.length], .agg #[.slice (some ⟨be', 0, none⟩) es.length es.length, .slice (some ⟨bt', 0, none⟩) ns.length ns.length]] w fun e w' => e = .returned (.bool true) ∧ Below w.heap.size w w' := by
  have hb2 : Below w.heap.size w ((w.alloc (.cells #[.slice (some ⟨be, 0, none⟩) es.length es.length, .slice (some ⟨bt, 0, none⟩) ns.length ns.length] 25)).alloc (.cells #[.slice (some ⟨be', 0, none⟩) es.length es.length, .slice (some ⟨bt', 0, none⟩) ns.length ns.length] 25)) := ((Below.refl _ _).alloc (Nat.le_refl _) _).alloc (by simp) _
  have HB : Hid (Below w.heap.size w _) := hb2
  have HX : Hid (Calls _ _ _ _ _) := eqEffS_calls be 0 be' 0 es.length es.length es.length es _ (Nat.lt_of_lt_of_le h1 hb2.size) (Nat.lt_of_lt_of_le h3 hb2.size) (e1.below hb2 h1) (e3.below hb2 h3) (Nat.le_refl _) m0
  have HN : Hid (NodesAt w bt 0 ns ∧ NodesAt w bt' 0 ns ∧ ns.length ≤ 1048576) := ⟨e2, e4, m1⟩
  clear e1 e2 e3 e4 m0 m1 hb2 h1 h3
  go_enter Tryz.func6, Tryz.ntmps6
  go_wp2_with fail
  refine HX.out.mono ?_
  rintro e w2 ⟨rfl, hb⟩
  have hb3 := HB.out.trans (hb.mono HB.out.size)
  have q1 : w2.cell? ⟨w.heap.size, 1, none⟩ = some (.slice (some ⟨bt, 0, none⟩) ns.length ns.length) := (hb.cell (p := ⟨w.heap.size, 1, none⟩) (by simp; omega)).trans (by simp [go_sem])
  have q2 : w2.cell? ⟨w.heap.size + 1, 1, none⟩ = some (.slice (some ⟨bt', 0, none⟩) ns.length ns.length) := (hb.cell (p := ⟨w.heap.size + 1, 1, none⟩) (by simp)).trans (by simp [go_sem])
  have HY : Hid (Calls _ _ _ _ _) := eqNodeS_calls bt 0 bt' 0 ns.length ns.length ns.length ns w2 (Nat.lt_of_lt_of_le h2 hb3.size) (Nat.lt_of_lt_of_le h4 hb3.size) (HN.out.1.below hb3 h2) (HN.out.2.1.below hb3 h4) (Nat.le_refl _) HN.out.2.2
  clear HX HB hb
  go_wp2_with fail
  refine HY.out.mono ?_
  rintro e w3 ⟨rfl, hb4⟩
  have hb5 := hb3.trans (hb4.mono hb3.size)
  clear HY hb4 q1 q2
  go_wp2_with fail
  go_ret
  exact ⟨rfl, hb5⟩
end Go.Proofs.YtkdipppeljpgmaaGreatDoor

/- A mark: a number as a text. -/
namespace Go.Proofs.YtkdipppeljpgmaaGreatDoor
open Go.RowKit

def dig (j : Nat) : ByteArray := ⟨#[UInt8.ofNat (48 + j % 10)]⟩

theorem dig_run (j : Nat) (w : World) : (convert 103 9 (.slice (some ⟨w.heap.size, 0, none⟩) 1 1)).run Tryz.prog (w.alloc (.cells #[.int .u8 (48 + (j : Int) % 10)] 5)) = .ok (.string (dig j)) (w.alloc (.cells #[.int .u8 (48 + (j : Int) % 10)] 5)) := by
  have h := run_convert_bytes_back (P := Tryz.prog) (w.alloc (.cells #[.int .u8 (48 + (j : Int) % 10)] 5)) 103 9 5 ⟨w.heap.size, 0, none⟩ 1 [UInt8.ofNat (48 + j % 10)] Tryz.underlying103 Tryz.underlying5 Tryz.underlying9 (fun i hi => by
    have h0 : i = 0 := by simpa using hi
    subst h0
    simp [Addr.add]
    omega)
  exact h

/-- The digits of a mark, put ahead one by one. -/
def markGo : Nat → Nat → ByteArray → ByteArray
  | 0, _, out => out
  | f + 1, j, out => if j = 0 then out else markGo f (j / 10) (dig j ++ out)

def markOf (k : Nat) : ByteArray := if k = 0 then ⟨#[109, 48]⟩ else ⟨#[109]⟩ ++ markGo k k ⟨#[]⟩

set_option maxHeartbeats 1000000 in
set_option maxRecDepth 100000 in
theorem mark_calls (k : Nat) (HK : Hid (k ≤ 10000000)) (w : World) :
    Calls Tryz.prog 51 #[.int .i64 k] w fun e w' => e = .returned (.string (markOf k)) ∧ Below w.heap.size w w' := by
  by_cases h0 : k = 0
  · subst h0
    go_enter Tryz.func51, Tryz.ntmps51
    go_wp2_with fail
    go_ret
    exact ⟨rfl, Below.refl _ _⟩
  obtain ⟨R, hR⟩ : ∃ R, markGo k k ⟨#[]⟩ = R := ⟨_, rfl⟩
  have e : markOf k = ⟨#[109]⟩ ++ R := by rw [markOf, if_neg h0, hR]
  rw [e]
  have HR : Hid (markGo k k ⟨#[]⟩ = R) := hR
  clear hR e
  go_enter Tryz.func51, Tryz.ntmps51
  go_wp2_with fail
  go_loopw [0, 3] (fun a o wr => ∃ (j f : Nat) (out : ByteArray), a = .int .i64 j ∧ o = .string out ∧ (j : Int) ≤ 10000000 ∧ out.size ≤ 8 ∧ Hid (j ≤ f ∧ ∃ d, out.size + d ≤ 8 ∧ j < 10 ^ d) ∧ Hid (markGo f j out = R) ∧ Below w.heap.size w wr) (fun a _ _ => (intOf a).toNat)
  case atStart => exact ⟨k, k, _, rfl, rfl, by have := HK.out; omega, Nat.zero_le _, ⟨Nat.le_refl _, 8, Nat.le_refl _, by have := HK.out; omega⟩, HR, Below.refl _ _⟩
  case round =>
    obtain ⟨j, f, out, rfl, rfl, hj9, hos, HFo, HE, hnx⟩ := hrel
    clear HR
    by_cases hj0 : j = 0
    · subst hj0
      have hE : out = R := by
        have := HE.out
        cases f with
        | zero => exact this
        | succ f => simpa [markGo] using this
      subst hE
      clear HE
      go_wp2_with fail
      go_ret
      exact ⟨rfl, hnx⟩
    · obtain ⟨f, rfl⟩ : ∃ f', f = f' + 1 := ⟨f - 1, by have := HFo.out.1; omega⟩
      have HFn : Hid (j / 10 ≤ f ∧ ∃ d, out.size + 1 + d ≤ 8 ∧ j / 10 < 10 ^ d) := by
        obtain ⟨h1, d, h2, h3⟩ := HFo.out
        cases d with
        | zero => exfalso; simp at h3; omega
        | succ d => exact ⟨by omega, d, by omega, by rw [Nat.pow_succ] at h3; omega⟩
      have hos2 : out.size ≤ 7 := by obtain ⟨-, d, h, -⟩ := HFn.out; omega
      have hE := HE.out
      rw [markGo, if_neg hj0] at hE
      have HE' : Hid (markGo f (j / 10) (dig j ++ out) = R) := hE
      have hcv := dig_run j wr
      have hdz : (dig j).size = 1 := rfl
      clear HE hE
      generalize dig j = dj at *
      go_wp2_with fail
      refine ⟨⟨j / 10, f, dj ++ out, by simp, rfl, by omega, ?_, ⟨HFn.out.1, ?_⟩, HE', hnx.alloc hnx.size _⟩, by simp [intOf]; omega⟩
      · rw [ByteArray.size_append, hdz]
        omega
      · obtain ⟨-, d, h1, h2⟩ := HFn.out
        exact ⟨d, by rw [ByteArray.size_append, hdz]; omega, h2⟩

theorem mark_callsZ (x : Int) (HX : Hid (0 ≤ x ∧ x ≤ 10000000)) (w : World) :
    Calls Tryz.prog 51 #[.int .i64 x] w fun e w' => e = .returned (.string (markOf x.toNat)) ∧ Below w.heap.size w w' := by
  obtain ⟨n, rfl⟩ := Int.eq_ofNat_of_zero_le HX.out.1
  rw [Int.toNat_natCast]
  exact mark_calls n (by have := HX.out.2; show _ ≤ _; omega) w
end Go.Proofs.YtkdipppeljpgmaaGreatDoor

/- Lists of texts in memory: two that hold the same compare as alike; marks that are put into one are held by it. -/
namespace Go.Proofs.YtkdipppeljpgmaaGreatDoor
open Go.RowKit

def strF (ss : List ByteArray) (i : Nat) : Value := .string (ss.getD i ⟨#[]⟩)

/-- The marks, told by the place. -/
def strMarks (i : Nat) : Value := .string (markOf (1 + i))

theorem wrap_inc {k n : Nat} (hk : k < n) (hm : n ≤ 1048576) : wrap64 ((k : Int) + 1) = ((k + 1 : Nat) : Int) := by
  unfold wrap64
  omega

theorem wrap_inc1 {x : Int} {k n : Nat} (hx : x = 1 + (k : Int)) (hk : k < n) (hm : n ≤ 1048576) : wrap64 (x + 1) = x + 1 := by
  unfold wrap64
  omega

/-- A slice that holds these texts. -/
def StrSlice (w : World) (v : Value) (ss : List ByteArray) : Prop :=
  ∃ ad cap, v = .slice ad ss.length cap ∧ (ss.length = 0 ∨ ∃ g o, ad = some ⟨g, o, none⟩ ∧ g < w.heap.size ∧ ∀ k, k < ss.length → w.cell? ⟨g, o + k, none⟩ = some (strF ss k))

theorem StrSlice.below {w w' : World} {v : Value} {ss : List ByteArray} (h : StrSlice w v ss) (hb : Below w.heap.size w w') : StrSlice w' v ss := by
  obtain ⟨ad, cap, rfl, h⟩ := h
  refine ⟨ad, cap, rfl, h.imp id ?_⟩
  rintro ⟨g, o, rfl, hg, hc⟩
  exact ⟨g, o, rfl, Nat.lt_of_lt_of_le hg hb.size, fun k hk => (hb.cell (p := ⟨g, o + k, none⟩) hg).trans (hc k hk)⟩

theorem SliceR.strSlice {B : Nat} {w : World} {v : Value} {ss : List ByteArray} (h : SliceR 9 1 B w v ss.length (strF ss)) : StrSlice w v ss := by
  obtain ⟨ad, cap, rfl, h⟩ := h
  refine ⟨ad, cap, rfl, h.imp id ?_⟩
  rintro ⟨g, rfl, hB, hr⟩
  exact ⟨g, 0, rfl, hr.lt, fun k hk => by rw [Nat.zero_add]; exact hr.cell (by omega)⟩

theorem row_more {k : Nat} {f f' F : Nat → Value} (hf : ∀ i, i < k → f i = F i) (ho : ∀ i, i < k → f' i = f i) (h0 : f' k = F k) : ∀ i, i < k + 1 → f' i = F i := by
  intro i hi
  by_cases h : i < k
  · rw [ho i h, hf i h]
  · rw [show i = k by omega]
    exact h0

end Go.Proofs.YtkdipppeljpgmaaGreatDoor

/- Lists of nodes in memory: a copy lies in a row of its own; marks that are put into one are held by it. -/
namespace Go.Proofs.YtkdipppeljpgmaaGreatDoor
open Go.RowKit

/-- The cells of nodes, told by place. -/
def ndF (ns : List Nd) (i : Nat) : Value := (ns.getD (i / 6) default).cell (i % 6)

theorem ndF_at (ns : List Nd) (j c : Nat) (hc : c < 6) : ndF ns (j * 6 + c) = (ns.getD j default).cell c := by
  unfold ndF
  rw [show (j * 6 + c) / 6 = j by omega, show (j * 6 + c) % 6 = c by omega]

theorem CellRow.nodes {w : World} {g : Nat} {ns : List Nd} (h : CellRow 64 w g (ns.length * 6) (ndF ns)) : NodesAt w g 0 ns := by
  intro j hj c hc
  rw [Nat.zero_add, h.cell (by omega), ndF_at ns j c hc]

theorem SliceR.nodesAt {B g n cap : Nat} {w : World} {ns : List Nd} (h : SliceR 64 6 B w (.slice (some ⟨g, 0, none⟩) n cap) ns.length (ndF ns)) : NodesAt w g 0 ns := by
  obtain ⟨ad, c, e, h⟩ := h
  cases e
  by_cases h0 : ns.length = 0
  · intro j hj
    omega
  · obtain ⟨g', e, -, hr⟩ := h.resolve_left h0
    cases e
    exact hr.nodes

/-- The marks, told by the place of the cell. -/
def ndMarks (i : Nat) : Value := if i % 6 = 2 ∨ i % 6 = 3 ∨ i % 6 = 4 then .string (markOf (1 + i)) else .int .i64 (1 + (i : Int))

theorem wrap_six {x : Int} {k n : Nat} (hx : x = 1 + 6 * (k : Int)) (hk : k < n) (hm : n ≤ 1048576) : wrap64 (x + 1) = x + 1 ∧ wrap64 (x + 1 + 1) = x + 1 + 1 ∧ wrap64 (x + 1 + 1 + 1) = x + 1 + 1 + 1 ∧ wrap64 (x + 1 + 1 + 1 + 1) = x + 1 + 1 + 1 + 1 ∧ wrap64 (x + 1 + 1 + 1 + 1 + 1) = x + 1 + 1 + 1 + 1 + 1 ∧ wrap64 (x + 1 + 1 + 1 + 1 + 1 + 1) = x + 1 + 1 + 1 + 1 + 1 + 1 := by
  unfold wrap64
  omega

theorem six_more {k : Nat} {f f' F : Nat → Value} (hf : ∀ i, i < k * 6 → f i = F i) (ho : ∀ i, i < k * 6 → f' i = f i) (h : ∀ c, c < 6 → f' (k * 6 + c) = F (k * 6 + c)) : ∀ i, i < (k + 1) * 6 → f' i = F i := by
  intro i hi
  by_cases hik : i < k * 6
  · rw [ho i hik, hf i hik]
  · have := h (i - k * 6) (by omega)
    rwa [show k * 6 + (i - k * 6) = i by omega] at this

theorem Rw.put {w : World} {g : Nat} {t : TypeId} {N n : Nat} {f : Nat → Value} (h : Rw w g t N f n) (i : Nat) (v : Value) : ∃ f', Rw (w.setCell ⟨g, i, none⟩ v) g t N f' n ∧ f' i = v ∧ ∀ j, j ≠ i → f' j = f j :=
  ⟨_, h.set i v, if_pos rfl, fun _ hj => if_neg hj⟩

set_option maxHeartbeats 4000000 in
set_option maxRecDepth 100000 in
theorem markNodeS_rows (g n cap : Nat) (F : Nat → Value) (w : World) (hm : n ≤ 1048576) (hr : CellRow 64 w g (n * 6) F) :
    Calls Tryz.prog 23 #[.slice (some ⟨g, 0, none⟩) n cap, .int .i64 1] w fun e w' => e = .returned (.int .i64 (1 + 6 * (n : Int))) ∧ CellRow 64 w' g (n * 6) ndMarks ∧ w.grownBy w' (some g) := by
  obtain ⟨N, f, hf, hN, _⟩ := hr
  have HM : Hid (n ≤ 1048576) := hm
  clear hm
  go_enter Tryz.func23, Tryz.ntmps23
  go_wp2_with fail
  go_loopw [1, 5] (fun m i wr => ∃ (k : Nat) (x : Int) (f : Nat → Value), k ≤ n ∧ i = .int .i64 k ∧ m = .int .i64 x ∧ Hid (x = 1 + 6 * (k : Int)) ∧ Rw wr g 64 N f (n * 6) ∧ Hid (∀ j, j < k * 6 → f j = ndMarks j) ∧ w.grownBy wr (some g)) (fun _ i _ => n - (intOf i).toNat)
  case atStart => exact ⟨0, 1, f, Nat.zero_le _, rfl, rfl, by show _ = _; simp, hf, fun j hj => by omega, kept_refl _ _⟩
  case round =>
    obtain ⟨k, x, f, hk, rfl, rfl, Hx, hrow, HF, hgr⟩ := hrel
    clear hf
    by_cases hkl : (k : Int) < (n : Int)
    · have HW := hid (wrap_six Hx.out (by omega) HM.out)
      have HC : Hid (∀ (c : Nat) (X : World), 2 ≤ c → c ≤ 4 → Calls Tryz.prog 51 #[.int .i64 (x + (c : Int))] X fun e w' => e = .returned (.string (markOf (1 + (k * 6 + c)))) ∧ Below X.heap.size X w') := fun c X h1 h2 => by
        have := mark_callsZ (x + (c : Int)) (by show _ ∧ _; have := Hx.out; have := HM.out; omega) X
        rwa [show (x + (c : Int)).toNat = 1 + (k * 6 + c) by have := Hx.out; omega] at this
      have HC2 := hid (fun X => HC.out 2 X (by decide) (by decide))
      have HC3 := hid (fun X => HC.out 3 X (by decide) (by decide))
      have HC4 := hid (fun X => HC.out 4 X (by decide) (by decide))
      rw [show x + ((2 : Nat) : Int) = x + 1 + 1 by omega] at HC2
      rw [show x + ((3 : Nat) : Int) = x + 1 + 1 + 1 by omega] at HC3
      rw [show x + ((4 : Nat) : Int) = x + 1 + 1 + 1 + 1 by omega] at HC4
      have HB : Hid (ndMarks (k * 6 + 0) = .int .i64 x ∧ ndMarks (k * 6 + 1) = .int .i64 (x + 1) ∧ ndMarks (k * 6 + 2) = .string (markOf (1 + (k * 6 + 2))) ∧ ndMarks (k * 6 + 3) = .string (markOf (1 + (k * 6 + 3))) ∧ ndMarks (k * 6 + 4) = .string (markOf (1 + (k * 6 + 4))) ∧ ndMarks (k * 6 + 5) = .int .i64 (x + 1 + 1 + 1 + 1 + 1)) := by
        have hx := Hx.out
        unfold ndMarks
        refine ⟨?_, ?_, ?_, ?_, ?_, ?_⟩
        · rw [if_neg (by omega)]; congr 1; omega
        · rw [if_neg (by omega)]; congr 1; omega
        · rw [if_pos (by omega)]
        · rw [if_pos (by omega)]
        · rw [if_pos (by omega)]
        · rw [if_neg (by omega)]; congr 1; omega
      generalize markOf (1 + (k * 6 + 2)) = m2 at *
      generalize markOf (1 + (k * 6 + 3)) = m3 at *
      generalize markOf (1 + (k * 6 + 4)) = m4 at *
      have q0 := hrow.cell (i := k * 6) (by omega)
      have q1 := hrow.cell (i := k * 6 + 1) (by omega)
      have z0 := hrow.frozen (k * 6) (by omega)
      have z1 := hrow.frozen (k * 6 + 1) (by omega)
      clear HC
      obtain ⟨e1, e2, e3, e4, e5, e6⟩ := HW.out
      have HE := hid (And.intro e1 (And.intro e2 (And.intro e3 (And.intro e4 (And.intro e5 e6)))))
      clear e1 e2 e3 e4 e5 e6 HW
      go_wp2_with fail
      obtain ⟨e1, e2, e3, e4, e5, e6⟩ := HE.out
      simp only [e1, e2]
      clear e1 e2 e3 e4 e5 e6
      refine (HC2.out _).mono ?_
      rintro e W1 ⟨rfl, hb1⟩
      obtain ⟨f0, r0, a0, o0⟩ := hrow.put (k * 6) (.int .i64 x)
      obtain ⟨f1, r1, a1, o1⟩ := r0.put (k * 6 + 1) (.int .i64 (x + 1))
      have r1' := r1.of_block (hb1.block g r1.lt)
      have hgr1 := kept_below (kept_set (kept_set hgr (k * 6) (.int .i64 x)) (k * 6 + 1) (.int .i64 (x + 1))) hb1
      have q2 := r1'.cell (i := k * 6 + 2) (by omega)
      have z2 := r1'.frozen (k * 6 + 2) (by omega)
      have HO0 := hid (And.intro a0 o0)
      have HO1 := hid (And.intro a1 o1)
      clear q0 q1 z0 z1 hrow r0 r1 hb1 hgr a0 o0 a1 o1 HC2
      go_wp2_with fail
      obtain ⟨e1, e2, e3, e4, e5, e6⟩ := HE.out
      simp only [e3]
      clear e1 e2 e3 e4 e5 e6
      refine (HC3.out _).mono ?_
      rintro e W2 ⟨rfl, hb2⟩
      obtain ⟨f2, r2, a2, o2⟩ := r1'.put (k * 6 + 2) (.string m2)
      have r2' := r2.of_block (hb2.block g r2.lt)
      have hgr2 := kept_below (kept_set hgr1 (k * 6 + 2) (.string m2)) hb2
      have q3 := r2'.cell (i := k * 6 + 3) (by omega)
      have z3 := r2'.frozen (k * 6 + 3) (by omega)
      have HO2 := hid (And.intro a2 o2)
      clear q2 z2 r1' r2 hb2 hgr1 a2 o2 HC3
      go_wp2_with fail
      obtain ⟨e1, e2, e3, e4, e5, e6⟩ := HE.out
      simp only [e4]
      clear e1 e2 e3 e4 e5 e6
      refine (HC4.out _).mono ?_
      rintro e W3 ⟨rfl, hb3⟩
      obtain ⟨f3, r3, a3, o3⟩ := r2'.put (k * 6 + 3) (.string m3)
      have r3' := r3.of_block (hb3.block g r3.lt)
      have hgr3 := kept_below (kept_set hgr2 (k * 6 + 3) (.string m3)) hb3
      have q4 := r3'.cell (i := k * 6 + 4) (by omega)
      have z4 := r3'.frozen (k * 6 + 4) (by omega)
      have q5 := r3'.cell (i := k * 6 + 5) (by omega)
      have z5 := r3'.frozen (k * 6 + 5) (by omega)
      have HO3 := hid (And.intro a3 o3)
      clear q3 z3 r2' r3 hb3 hgr2 a3 o3 HC4
      go_wp2_with fail
      obtain ⟨e1, e2, e3, e4, e5, e6⟩ := HE.out
      simp only [e5, e6]
      obtain ⟨f4, r4, a4, o4⟩ := r3'.put (k * 6 + 4) (.string m4)
      obtain ⟨f5, r5, a5, o5⟩ := r4.put (k * 6 + 5) (.int .i64 (x + 1 + 1 + 1 + 1 + 1))
      obtain ⟨a0, o0⟩ := HO0.out
      obtain ⟨a1, o1⟩ := HO1.out
      obtain ⟨a2, o2⟩ := HO2.out
      obtain ⟨a3, o3⟩ := HO3.out
      obtain ⟨b0, b1, b2, b3, b4, b5⟩ := HB.out
      rw [wrap_inc (n := n) (by omega) HM.out]
      have hs : n - (intOf (.int .i64 ((k + 1 : Nat) : Int))).toNat < n - (intOf (.int .i64 (k : Int))).toNat := by simp only [intOf, Int.toNat_natCast]; omega
      have hx := Hx.out
      refine ⟨⟨k + 1, x + 1 + 1 + 1 + 1 + 1 + 1, f5, by omega, rfl, rfl, by show _ = _; omega, r5, six_more HF.out (fun i hi => ?_) (fun c hc => ?_), kept_set (kept_set hgr3 _ _) _ _⟩, hs⟩
      · rw [o5 i (by omega), o4 i (by omega), o3 i (by omega), o2 i (by omega), o1 i (by omega), o0 i (by omega)]
      · match c, hc with
        | 0, _ => rw [o5 _ (by omega), o4 _ (by omega), o3 _ (by omega), o2 _ (by omega), o1 _ (by omega), b0]; exact a0
        | 1, _ => rw [o5 _ (by omega), o4 _ (by omega), o3 _ (by omega), o2 _ (by omega), a1, b1]
        | 2, _ => rw [o5 _ (by omega), o4 _ (by omega), o3 _ (by omega), a2, b2]
        | 3, _ => rw [o5 _ (by omega), o4 _ (by omega), a3, b3]
        | 4, _ => rw [o5 _ (by omega), a4, b4]
        | 5, _ => rw [a5, b5]
    · have hkn : k = n := by omega
      subst hkn
      have HX : Hid (x = 1 + 6 * (k : Int)) := Hx
      clear Hx
      go_wp2_with fail
      go_ret
      exact ⟨by rw [← HX.out]; rfl, ⟨N, f, hrow, hN, HF.out⟩, hgr⟩

set_option maxRecDepth 100000 in
theorem markNodeS_none (ad : Option Addr) (cap : Nat) (w : World) :
    Calls Tryz.prog 23 #[.slice ad 0 cap, .int .i64 1] w fun e w' => e = .returned (.int .i64 1) ∧ w = w' := by
  go_enter Tryz.func23, Tryz.ntmps23
  go_wp2
  refine wp_loop_rounds 1 ?_
  rw [rounds_succ]
  go_wp2
  go_ret
  exact ⟨rfl, rfl⟩

theorem markNodeS_any {B n : Nat} {v : Value} {F : Nat → Value} (w : World) (hm : n ≤ 1048576) (h : SliceR 64 6 B w v n F) :
    Calls Tryz.prog 23 #[v, .int .i64 1] w fun e w' => e = .returned (.int .i64 (1 + 6 * (n : Int))) ∧ SliceR 64 6 B w' v n ndMarks ∧ Turned w w' v n := by
  obtain ⟨ad, cap, rfl, h⟩ := h
  by_cases h0 : n = 0
  · subst h0
    refine (markNodeS_none ad cap w).mono ?_
    rintro e w' ⟨rfl, rfl⟩
    exact ⟨by simp, ⟨ad, cap, rfl, Or.inl rfl⟩, none, kept_refl _ _, Or.inl rfl⟩
  · obtain ⟨g, rfl, hB, hr⟩ := h.resolve_left h0
    refine (markNodeS_rows g n cap F w hm hr).mono ?_
    rintro e w' ⟨rfl, hr', hg⟩
    exact ⟨rfl, ⟨_, cap, rfl, Or.inr ⟨g, rfl, hB, hr'⟩⟩, some g, hg, Or.inr ⟨h0, rfl⟩⟩
end Go.Proofs.YtkdipppeljpgmaaGreatDoor

/- What a law holds in memory between its calls, told as facts, each of a stretch of blocks of its own. -/
namespace Go.Proofs.YtkdipppeljpgmaaGreatDoor
open Go.RowKit

/-- Only such blocks are changed. -/
structure Chg (P : Nat → Prop) (w w' : World) : Prop where
  os : w'.os = w.os
  tape : w'.tape = w.tape
  output : w'.output = w.output
  size : w.heap.size ≤ w'.heap.size
  block : ∀ q, q < w.heap.size → ¬ P q → w'.heap[q]? = w.heap[q]?

theorem Chg.refl (P : Nat → Prop) (w : World) : Chg P w w := ⟨rfl, rfl, rfl, Nat.le_refl _, fun _ _ _ => rfl⟩

theorem Chg.trans {P : Nat → Prop} {w w1 w2 : World} (h : Chg P w w1) (h' : Chg P w1 w2) : Chg P w w2 :=
  ⟨h'.os.trans h.os, h'.tape.trans h.tape, h'.output.trans h.output, Nat.le_trans h.size h'.size, fun q hq hp => (h'.block q (Nat.lt_of_lt_of_le hq h.size) hp).trans (h.block q hq hp)⟩

theorem Chg.of_below {P : Nat → Prop} {w w' : World} (h : Below w.heap.size w w') : Chg P w w' := ⟨h.os, h.tape, h.output, h.size, fun q hq _ => h.block q hq⟩

theorem Chg.of_turned {P : Nat → Prop} {w w' : World} {v : Value} {n : Nat} (h : Turned w w' v n) (hp : ∀ q, n ≠ 0 → v.ownBlock = some q → P q) : Chg P w w' := by
  obtain ⟨row, hg, hrow⟩ := h
  refine ⟨hg.os, hg.tape, hg.output, hg.size, fun q hq hnp => hg.block q hq (fun e => ?_)⟩
  rcases hrow with rfl | ⟨hn, rfl⟩
  · cases e
  · exact hnp (hp q hn e.symm)

theorem Chg.set {P : Nat → Prop} {w : World} {g : Nat} (hp : P g) (i : Nat) (v : Value) : Chg P w (w.setCell ⟨g, i, none⟩ v) :=
  ⟨rfl, rfl, rfl, by simp [World.setCell], fun q _ hq => Below.heap_setCell w ⟨g, i, none⟩ v q (fun e => hq (e ▸ hp))⟩

theorem Chg.mono {P Q : Nat → Prop} {w w' : World} (h : Chg P w w') (hpq : ∀ q, P q → Q q) : Chg Q w w' := ⟨h.os, h.tape, h.output, h.size, fun q hq hn => h.block q hq (fun e => hn (hpq q e))⟩

theorem SliceR.chg {t : TypeId} {sz B : Nat} {P : Nat → Prop} {w w' : World} {v : Value} {n : Nat} {F : Nat → Value} (h : SliceR t sz B w v n F) (hc : Chg P w w') (hn : n ≠ 0 → ∀ q, v.ownBlock = some q → ¬ P q) : SliceR t sz B w' v n F := by
  obtain ⟨ad, cap, rfl, h⟩ := h
  refine ⟨ad, cap, rfl, ?_⟩
  by_cases h0 : n = 0
  · exact Or.inl h0
  · obtain ⟨g, rfl, hB, hr⟩ := h.resolve_left h0
    exact Or.inr ⟨g, rfl, hB, hr.of_block (hc.block g hr.lt (hn h0 g rfl))⟩

/-- What is told of a world depends on the blocks from lo to hi alone. -/
def Fact (lo hi : Nat) (T : World → Prop) : Prop := ∀ W W', T W → (∀ q, lo ≤ q → q < hi → W'.heap[q]? = W.heap[q]?) → T W'

theorem Fact.and {lo hi : Nat} {T U : World → Prop} (h : Fact lo hi T) (h' : Fact lo hi U) : Fact lo hi (fun W => T W ∧ U W) := fun W W' ht he => ⟨h W W' ht.1 he, h' W W' ht.2 he⟩

theorem Fact.wide {lo hi lo' hi' : Nat} {T : World → Prop} (h : Fact lo hi T) (h1 : lo' ≤ lo) (h2 : hi ≤ hi') : Fact lo' hi' T := fun W W' ht he => h W W' ht (fun q hq hq' => he q (by omega) (by omega))

theorem fact_slice {t : TypeId} {sz B hi : Nat} {v : Value} {n : Nat} (F : Nat → Value) (h : n ≠ 0 → ∀ q, v.ownBlock = some q → q < hi) : Fact B hi (fun X => SliceR t sz B X v n F) := by
  intro W W' ht he
  obtain ⟨ad, cap, rfl, ht⟩ := ht
  refine ⟨ad, cap, rfl, ?_⟩
  by_cases h0 : n = 0
  · exact Or.inl h0
  · obtain ⟨g, rfl, hB, hr⟩ := ht.resolve_left h0
    exact Or.inr ⟨g, rfl, hB, hr.of_block (he g hB (h h0 g rfl))⟩

/-- One fact: its stretch, what it tells. -/
structure Fc where
  lo : Nat
  hi : Nat
  T : World → Prop

/-- All that the law holds; the newest first. -/
structure Held (w0 : World) (l : List Fc) (W : World) : Prop where
  below : Below w0.heap.size w0 W
  fact : ∀ f ∈ l, Fact f.lo f.hi f.T
  tells : ∀ f ∈ l, f.T W
  lo : ∀ f ∈ l, w0.heap.size ≤ f.lo
  hi : ∀ f ∈ l, f.hi ≤ W.heap.size
  apart : l.Pairwise (fun f g => g.hi ≤ f.lo)

theorem Held.start (w : World) : Held w [] w := ⟨Below.refl _ _, fun _ h => (by cases h), fun _ h => (by cases h), fun _ h => (by cases h), fun _ h => (by cases h), List.Pairwise.nil⟩

theorem Held.keep {w0 W W' : World} {l : List Fc} (h : Held w0 l W) (hb : Below W.heap.size W W') : Held w0 l W' :=
  ⟨h.below.trans (hb.mono h.below.size), h.fact, fun f hf => h.fact f hf W W' (h.tells f hf) (fun q _ hq => hb.block q (Nat.lt_of_lt_of_le hq (h.hi f hf))), h.lo, fun f hf => Nat.le_trans (h.hi f hf) hb.size, h.apart⟩

theorem Held.add {w0 W W' : World} {l : List Fc} (h : Held w0 l W) (hb : Below W.heap.size W W') {T : World → Prop} (hf : Fact W.heap.size W'.heap.size T) (ht : T W') : Held w0 (⟨W.heap.size, W'.heap.size, T⟩ :: l) W' := by
  have k := h.keep hb
  refine ⟨k.below, fun f hf' => ?_, fun f hf' => ?_, fun f hf' => ?_, fun f hf' => ?_, List.Pairwise.cons (fun f hf' => h.hi f hf') h.apart⟩
  · rcases List.mem_cons.1 hf' with rfl | hf'
    · exact hf
    · exact k.fact f hf'
  · rcases List.mem_cons.1 hf' with rfl | hf'
    · exact ht
    · exact k.tells f hf'
  · rcases List.mem_cons.1 hf' with rfl | hf'
    · exact h.below.size
    · exact k.lo f hf'
  · rcases List.mem_cons.1 hf' with rfl | hf'
    · exact Nat.le_refl _
    · exact k.hi f hf'

/-- One fact is changed, within its stretch. -/
theorem Held.chg {w0 W W' : World} (l1 : List Fc) {l2 : List Fc} {lo hi : Nat} {T T' : World → Prop} {P : Nat → Prop} (h : Held w0 (l1 ++ ⟨lo, hi, T⟩ :: l2) W) (hc : Chg P W W') (hp : ∀ q, P q → lo ≤ q ∧ q < hi) (hf : Fact lo hi T') (ht : T' W') : Held w0 (l1 ++ ⟨lo, hi, T'⟩ :: l2) W' := by
  have hm : (⟨lo, hi, T⟩ : Fc) ∈ l1 ++ ⟨lo, hi, T⟩ :: l2 := List.mem_append_right _ List.mem_cons_self
  have hlo := h.lo _ hm
  obtain ⟨p1, p2, p3⟩ := List.pairwise_append.1 h.apart
  obtain ⟨p4, p5⟩ := List.pairwise_cons.1 p2
  have hcase : ∀ f, f ∈ l1 ++ ⟨lo, hi, T'⟩ :: l2 → f = ⟨lo, hi, T'⟩ ∨ (f ∈ l1 ++ ⟨lo, hi, T⟩ :: l2 ∧ (f.hi ≤ lo ∨ hi ≤ f.lo)) := fun f hf => by
    rcases List.mem_append.1 hf with h1 | h1
    · exact Or.inr ⟨List.mem_append_left _ h1, Or.inr (p3 f h1 _ List.mem_cons_self)⟩
    · rcases List.mem_cons.1 h1 with h1 | h1
      · exact Or.inl h1
      · exact Or.inr ⟨List.mem_append_right _ (List.mem_cons_of_mem _ h1), Or.inl (p4 f h1)⟩
  refine ⟨⟨hc.os.trans h.below.os, hc.tape.trans h.below.tape, hc.output.trans h.below.output, Nat.le_trans h.below.size hc.size, fun q hq => ?_⟩, fun f hf' => ?_, fun f hf' => ?_, fun f hf' => ?_, fun f hf' => ?_, ?_⟩
  · exact (hc.block q (Nat.lt_of_lt_of_le hq h.below.size) (fun e => by have := (hp q e).1; have hlo' : w0.heap.size ≤ lo := hlo; omega)).trans (h.below.block q hq)
  · rcases hcase f hf' with rfl | ⟨h1, -⟩
    · exact hf
    · exact h.fact f h1
  · rcases hcase f hf' with rfl | ⟨h1, h2⟩
    · exact ht
    · have hh := h.hi f h1
      exact h.fact f h1 W W' (h.tells f h1) (fun q hq hq' => hc.block q (by omega) (fun e => by have := hp q e; omega))
  · rcases hcase f hf' with rfl | ⟨h1, -⟩
    · exact hlo
    · exact h.lo f h1
  · have hs := hc.size
    rcases hcase f hf' with rfl | ⟨h1, -⟩
    · exact Nat.le_trans (h.hi ⟨lo, hi, T⟩ hm) hs
    · exact Nat.le_trans (h.hi f h1) hs
  · refine List.pairwise_append.2 ⟨p1, List.pairwise_cons.2 ⟨p4, p5⟩, fun a ha b hb => ?_⟩
    rcases List.mem_cons.1 hb with rfl | hb
    · exact p3 a ha ⟨lo, hi, T⟩ List.mem_cons_self
    · exact p3 a ha b (List.mem_cons_of_mem _ hb)

/-- What a new slice tells. -/
theorem Held.slice {w0 W W' : World} {l : List Fc} (h : Held w0 l W) (hb : Below W.heap.size W W') {t : TypeId} {sz : Nat} {v : Value} {n : Nat} {F : Nat → Value} (hs : SliceR t sz W.heap.size W' v n F) : Held w0 (⟨W.heap.size, W'.heap.size, fun X => SliceR t sz W.heap.size X v n F⟩ :: l) W' :=
  h.add hb (fact_slice F (fun h0 q e => by obtain ⟨g, e1, -, h2⟩ := hs.block h0; rw [e1] at e; cases e; exact h2)) hs

/-- A slice is marked. -/
theorem Held.mark {w0 W W1 W' : World} (l1 : List Fc) {l2 : List Fc} {lo hi B : Nat} {t : TypeId} {sz : Nat} {v : Value} {n : Nat} {F G : Nat → Value} (h : Held w0 (l1 ++ ⟨lo, hi, fun X => SliceR t sz lo X v n F⟩ :: l2) W) (hu : n ≠ 0 → ∀ q, v.ownBlock = some q → q < hi) (hk : Below W.heap.size W W1) (ht : Turned W1 W' v n) (hG : SliceR t sz B W' v n G) : Held w0 (l1 ++ ⟨lo, hi, fun X => SliceR t sz lo X v n G⟩ :: l2) W' := by
  have hs := h.tells _ (List.mem_append_right l1 List.mem_cons_self)
  refine (h.keep hk).chg l1 (P := fun q => n ≠ 0 ∧ v.ownBlock = some q) (Chg.of_turned ht (fun q h0 e => ⟨h0, e⟩)) (fun q hq => ⟨?_, hu hq.1 q hq.2⟩) (fact_slice G hu) ?_
  · obtain ⟨g, e1, h1, -⟩ := hs.block hq.1
    rw [e1] at hq
    cases hq.2
    exact h1
  · obtain ⟨ad, cap, e, h1⟩ := hG
    obtain ⟨ad', cap', e', h2⟩ := hs
    by_cases h0 : n = 0
    · exact ⟨ad, cap, e, Or.inl h0⟩
    · obtain ⟨g, rfl, _, hr⟩ := h1.resolve_left h0
      obtain ⟨g', e2, hB, _⟩ := h2.resolve_left h0
      rw [e] at e'
      cases e'
      cases e2
      exact ⟨_, cap, e, Or.inr ⟨g, rfl, hB, hr⟩⟩
end Go.Proofs.YtkdipppeljpgmaaGreatDoor

/- A program in memory: a copy lies in rows of its own; marks that are put into it change nothing else. -/
namespace Go.Proofs.YtkdipppeljpgmaaGreatDoor
open Go.RowKit

/-- The cells of operations, told by place. -/
def efF (es : List Ef) (i : Nat) : Value := (es.getD (i / 3) default).cell (i % 3)

theorem efF_at (es : List Ef) (j c : Nat) (hc : c < 3) : efF es (j * 3 + c) = (es.getD j default).cell c := by
  unfold efF
  rw [show (j * 3 + c) / 3 = j by omega, show (j * 3 + c) % 3 = c by omega]

theorem CellRow.effs {w : World} {g : Nat} {es : List Ef} (h : CellRow 59 w g (es.length * 3) (efF es)) : EffsAt w g 0 es := by
  intro j hj c hc
  rw [Nat.zero_add, h.cell (by omega), efF_at es j c hc]

theorem wrap_sixS {s x : Int} {k n : Nat} (hs : 0 ≤ s ∧ s ≤ 3200000) (hx : x = s + 6 * (k : Int)) (hk : k < n) (hm : n ≤ 1048576) : wrap64 (x + 1) = x + 1 ∧ wrap64 (x + 1 + 1) = x + 1 + 1 ∧ wrap64 (x + 1 + 1 + 1) = x + 1 + 1 + 1 ∧ wrap64 (x + 1 + 1 + 1 + 1) = x + 1 + 1 + 1 + 1 ∧ wrap64 (x + 1 + 1 + 1 + 1 + 1) = x + 1 + 1 + 1 + 1 + 1 ∧ wrap64 (x + 1 + 1 + 1 + 1 + 1 + 1) = x + 1 + 1 + 1 + 1 + 1 + 1 := by
  unfold wrap64
  omega

theorem wrap_three {x : Int} {k n : Nat} (hx : x = 1 + 3 * (k : Int)) (hk : k < n) (hm : n ≤ 1048576) : wrap64 (x + 1) = x + 1 ∧ wrap64 (x + 1 + 1) = x + 1 + 1 ∧ wrap64 (x + 1 + 1 + 1) = x + 1 + 1 + 1 := by
  unfold wrap64
  omega

set_option maxHeartbeats 4000000 in
set_option maxRecDepth 100000 in
theorem markNodeS_from (g n cap : Nat) (s : Int) (F : Nat → Value) (w : World) (hm : n ≤ 1048576) (hs0 : 0 ≤ s ∧ s ≤ 3200000) (hr : CellRow 64 w g (n * 6) F) :
    Calls Tryz.prog 23 #[.slice (some ⟨g, 0, none⟩) n cap, .int .i64 s] w fun e w' => e = .returned (.int .i64 (s + 6 * (n : Int))) ∧ w.grownBy w' (some g) := by
  obtain ⟨N, f, hf, hN, _⟩ := hr
  have HM : Hid (n ≤ 1048576) := hm
  have HS0 := hid hs0
  clear hm hs0
  go_enter Tryz.func23, Tryz.ntmps23
  go_wp2_with fail
  go_loopw [1, 5] (fun m i wr => ∃ (k : Nat) (x : Int) (f : Nat → Value), k ≤ n ∧ i = .int .i64 k ∧ m = .int .i64 x ∧ Hid (x = s + 6 * (k : Int)) ∧ Rw wr g 64 N f (n * 6) ∧ w.grownBy wr (some g)) (fun _ i _ => n - (intOf i).toNat)
  case atStart => exact ⟨0, s, f, Nat.zero_le _, rfl, rfl, by show _ = _; simp, hf, kept_refl _ _⟩
  case round =>
    obtain ⟨k, x, f, hk, rfl, rfl, Hx, hrow, hgr⟩ := hrel
    clear hf
    by_cases hkl : (k : Int) < (n : Int)
    · have HW := hid (wrap_sixS HS0.out Hx.out (by omega) HM.out)
      have HC : Hid (∀ (c : Nat) (X : World), 2 ≤ c → c ≤ 4 → Calls Tryz.prog 51 #[.int .i64 (x + (c : Int))] X fun e w' => e = .returned (.string (markOf (x + (c : Int)).toNat)) ∧ Below X.heap.size X w') := fun c X h1 h2 => by
        have := mark_callsZ (x + (c : Int)) (by show _ ∧ _; have := Hx.out; have := HM.out; have := HS0.out; omega) X
        exact this
      have HC2 := hid (fun X => HC.out 2 X (by decide) (by decide))
      have HC3 := hid (fun X => HC.out 3 X (by decide) (by decide))
      have HC4 := hid (fun X => HC.out 4 X (by decide) (by decide))
      rw [show x + ((2 : Nat) : Int) = x + 1 + 1 by omega] at HC2
      rw [show x + ((3 : Nat) : Int) = x + 1 + 1 + 1 by omega] at HC3
      rw [show x + ((4 : Nat) : Int) = x + 1 + 1 + 1 + 1 by omega] at HC4
      generalize markOf (x + 1 + 1).toNat = m2 at *
      generalize markOf (x + 1 + 1 + 1).toNat = m3 at *
      generalize markOf (x + 1 + 1 + 1 + 1).toNat = m4 at *
      have q0 := hrow.cell (i := k * 6) (by omega)
      have q1 := hrow.cell (i := k * 6 + 1) (by omega)
      have z0 := hrow.frozen (k * 6) (by omega)
      have z1 := hrow.frozen (k * 6 + 1) (by omega)
      clear HC
      obtain ⟨e1, e2, e3, e4, e5, e6⟩ := HW.out
      have HE := hid (And.intro e1 (And.intro e2 (And.intro e3 (And.intro e4 (And.intro e5 e6)))))
      clear e1 e2 e3 e4 e5 e6 HW
      go_wp2_with fail
      obtain ⟨e1, e2, e3, e4, e5, e6⟩ := HE.out
      simp only [e1, e2]
      clear e1 e2 e3 e4 e5 e6
      refine (HC2.out _).mono ?_
      rintro e W1 ⟨rfl, hb1⟩
      obtain ⟨f0, r0, -, -⟩ := hrow.put (k * 6) (.int .i64 x)
      obtain ⟨f1, r1, -, -⟩ := r0.put (k * 6 + 1) (.int .i64 (x + 1))
      have r1' := r1.of_block (hb1.block g r1.lt)
      have hgr1 := kept_below (kept_set (kept_set hgr (k * 6) (.int .i64 x)) (k * 6 + 1) (.int .i64 (x + 1))) hb1
      have q2 := r1'.cell (i := k * 6 + 2) (by omega)
      have z2 := r1'.frozen (k * 6 + 2) (by omega)
      clear q0 q1 z0 z1 hrow r0 r1 hb1 hgr HC2
      go_wp2_with fail
      obtain ⟨e1, e2, e3, e4, e5, e6⟩ := HE.out
      simp only [e3]
      clear e1 e2 e3 e4 e5 e6
      refine (HC3.out _).mono ?_
      rintro e W2 ⟨rfl, hb2⟩
      obtain ⟨f2, r2, -, -⟩ := r1'.put (k * 6 + 2) (.string m2)
      have r2' := r2.of_block (hb2.block g r2.lt)
      have hgr2 := kept_below (kept_set hgr1 (k * 6 + 2) (.string m2)) hb2
      have q3 := r2'.cell (i := k * 6 + 3) (by omega)
      have z3 := r2'.frozen (k * 6 + 3) (by omega)
      clear q2 z2 r1' r2 hb2 hgr1 HC3
      go_wp2_with fail
      obtain ⟨e1, e2, e3, e4, e5, e6⟩ := HE.out
      simp only [e4]
      clear e1 e2 e3 e4 e5 e6
      refine (HC4.out _).mono ?_
      rintro e W3 ⟨rfl, hb3⟩
      obtain ⟨f3, r3, -, -⟩ := r2'.put (k * 6 + 3) (.string m3)
      have r3' := r3.of_block (hb3.block g r3.lt)
      have hgr3 := kept_below (kept_set hgr2 (k * 6 + 3) (.string m3)) hb3
      have q4 := r3'.cell (i := k * 6 + 4) (by omega)
      have z4 := r3'.frozen (k * 6 + 4) (by omega)
      have q5 := r3'.cell (i := k * 6 + 5) (by omega)
      have z5 := r3'.frozen (k * 6 + 5) (by omega)
      clear q3 z3 r2' r3 hb3 hgr2 HC4
      go_wp2_with fail
      obtain ⟨e1, e2, e3, e4, e5, e6⟩ := HE.out
      simp only [e5, e6]
      obtain ⟨f4, r4, -, -⟩ := r3'.put (k * 6 + 4) (.string m4)
      obtain ⟨f5, r5, -, -⟩ := r4.put (k * 6 + 5) (.int .i64 (x + 1 + 1 + 1 + 1 + 1))
      rw [wrap_inc (n := n) (by omega) HM.out]
      have hs : n - (intOf (.int .i64 ((k + 1 : Nat) : Int))).toNat < n - (intOf (.int .i64 (k : Int))).toNat := by simp only [intOf, Int.toNat_natCast]; omega
      have hx := Hx.out
      exact ⟨⟨k + 1, x + 1 + 1 + 1 + 1 + 1 + 1, f5, by omega, rfl, rfl, by show _ = _; omega, r5, kept_set (kept_set hgr3 _ _) _ _⟩, hs⟩
    · have hkn : k = n := by omega
      subst hkn
      have HX : Hid (x = s + 6 * (k : Int)) := Hx
      clear Hx
      go_wp2_with fail
      go_ret
      exact ⟨by rw [← HX.out]; rfl, hgr⟩

set_option maxRecDepth 100000 in
theorem markNodeS_zero (ad : Option Addr) (cap : Nat) (s : Int) (w : World) :
    Calls Tryz.prog 23 #[.slice ad 0 cap, .int .i64 s] w fun e w' => e = .returned (.int .i64 s) ∧ w = w' := by
  go_enter Tryz.func23, Tryz.ntmps23
  go_wp2
  refine wp_loop_rounds 1 ?_
  rw [rounds_succ]
  go_wp2
  go_ret
  exact ⟨rfl, rfl⟩

set_option maxHeartbeats 4000000 in
set_option maxRecDepth 100000 in
theorem markEffS_rows (g n cap : Nat) (F : Nat → Value) (w : World) (hm : n ≤ 1048576) (hr : CellRow 59 w g (n * 3) F) :
    Calls Tryz.prog 22 #[.slice (some ⟨g, 0, none⟩) n cap, .int .i64 1] w fun e w' => e = .returned (.int .i64 (1 + 3 * (n : Int))) ∧ w.grownBy w' (some g) := by
  obtain ⟨N, f, hf, hN, _⟩ := hr
  have HM : Hid (n ≤ 1048576) := hm
  clear hm
  go_enter Tryz.func22, Tryz.ntmps22
  go_wp2_with fail
  go_loopw [1, 5] (fun m i wr => ∃ (k : Nat) (x : Int) (f : Nat → Value), k ≤ n ∧ i = .int .i64 k ∧ m = .int .i64 x ∧ Hid (x = 1 + 3 * (k : Int)) ∧ Rw wr g 59 N f (n * 3) ∧ w.grownBy wr (some g)) (fun _ i _ => n - (intOf i).toNat)
  case atStart => exact ⟨0, 1, f, Nat.zero_le _, rfl, rfl, by show _ = _; simp, hf, kept_refl _ _⟩
  case round =>
    obtain ⟨k, x, f, hk, rfl, rfl, Hx, hrow, hgr⟩ := hrel
    clear hf
    by_cases hkl : (k : Int) < (n : Int)
    · have HW := hid (wrap_three Hx.out (by omega) HM.out)
      have HC := hid (fun X => mark_callsZ x (by show _ ∧ _; have := Hx.out; have := HM.out; omega) X)
      generalize markOf x.toNat = m2 at *
      have q0 := hrow.cell (i := k * 3) (by omega)
      have z0 := hrow.frozen (k * 3) (by omega)
      go_wp2_with fail
      refine (HC.out _).mono ?_
      rintro e W1 ⟨rfl, hb1⟩
      have r1' := hrow.of_block (hb1.block g hrow.lt)
      have hgr1 := kept_below hgr hb1
      have q0 := r1'.cell (i := k * 3) (by omega)
      have q1 := r1'.cell (i := k * 3 + 1) (by omega)
      have q2 := r1'.cell (i := k * 3 + 2) (by omega)
      have z0 := r1'.frozen (k * 3) (by omega)
      have z1 := r1'.frozen (k * 3 + 1) (by omega)
      have z2 := r1'.frozen (k * 3 + 2) (by omega)
      clear hrow hb1 hgr HC
      go_wp2_with fail
      obtain ⟨e1, e2, e3⟩ := HW.out
      simp only [e1, e2, e3]
      obtain ⟨f0, r0, -, -⟩ := r1'.put (k * 3) (.string m2)
      obtain ⟨f1, r1, -, -⟩ := r0.put (k * 3 + 1) (.int .i64 (x + 1))
      obtain ⟨f2, r2, -, -⟩ := r1.put (k * 3 + 2) (.int .i64 (x + 1 + 1))
      rw [wrap_inc (n := n) (by omega) HM.out]
      have hs : n - (intOf (.int .i64 ((k + 1 : Nat) : Int))).toNat < n - (intOf (.int .i64 (k : Int))).toNat := by simp only [intOf, Int.toNat_natCast]; omega
      have hx := Hx.out
      exact ⟨⟨k + 1, x + 1 + 1 + 1, f2, by omega, rfl, rfl, by show _ = _; omega, r2, kept_set (kept_set (kept_set hgr1 _ _) _ _) _ _⟩, hs⟩
    · have hkn : k = n := by omega
      subst hkn
      have HX : Hid (x = 1 + 3 * (k : Int)) := Hx
      clear Hx
      go_wp2_with fail
      go_ret
      exact ⟨by rw [← HX.out]; rfl, hgr⟩

set_option maxRecDepth 100000 in
theorem markEffS_none (ad : Option Addr) (cap : Nat) (w : World) :
    Calls Tryz.prog 22 #[.slice ad 0 cap, .int .i64 1] w fun e w' => e = .returned (.int .i64 1) ∧ w = w' := by
  go_enter Tryz.func22, Tryz.ntmps22
  go_wp2
  refine wp_loop_rounds 1 ?_
  rw [rounds_succ]
  go_wp2
  go_ret
  exact ⟨rfl, rfl⟩

theorem markEffS_any (g n cap : Nat) (F : Nat → Value) (w : World) (hm : n ≤ 1048576) (h : n = 0 ∨ CellRow 59 w g (n * 3) F) :
    Calls Tryz.prog 22 #[.slice (some ⟨g, 0, none⟩) n cap, .int .i64 1] w fun e w' => e = .returned (.int .i64 (1 + 3 * (n : Int))) ∧ w.grownBy w' (some g) := by
  by_cases h0 : n = 0
  · subst h0
    refine (markEffS_none _ cap w).mono ?_
    rintro e w' ⟨rfl, rfl⟩
    exact ⟨by simp, kept_refl _ _⟩
  · exact markEffS_rows g n cap F w hm (h.resolve_left h0)

theorem markNodeS_fromAny (g n cap : Nat) (s : Int) (F : Nat → Value) (w : World) (hm : n ≤ 1048576) (hs0 : 0 ≤ s ∧ s ≤ 3200000) (h : n = 0 ∨ CellRow 64 w g (n * 6) F) :
    Calls Tryz.prog 23 #[.slice (some ⟨g, 0, none⟩) n cap, .int .i64 s] w fun e w' => e = .returned (.int .i64 (s + 6 * (n : Int))) ∧ w.grownBy w' (some g) := by
  by_cases h0 : n = 0
  · subst h0
    refine (markNodeS_zero _ cap s w).mono ?_
    rintro e w' ⟨rfl, rfl⟩
    exact ⟨by simp, kept_refl _ _⟩
  · exact markNodeS_from g n cap s F w hm hs0 (h.resolve_left h0)

theorem Chg.of_grown {P : Nat → Prop} {w w' : World} {g : Nat} (h : w.grownBy w' (some g)) (hp : P g) : Chg P w w' :=
  ⟨h.os, h.tape, h.output, h.size, fun q hq hn => h.block q hq (fun e => by cases e; exact hn hp)⟩

set_option maxRecDepth 100000 in
theorem markProg_calls (be bt n m : Nat) (F G : Nat → Value) (w : World) (hn : n ≤ 1048576) (hm : m ≤ 1048576) (hlt : be < bt) (hbe : be < w.heap.size) (hbt : bt < w.heap.size) (h1 : n = 0 ∨ CellRow 59 w be (n * 3) F) (h2 : m = 0 ∨ CellRow 64 w bt (m * 6) G) :
    Calls Tryz.prog 8 #[.agg #[.slice (some ⟨be, 0, none⟩) n n, .slice (some ⟨bt, 0, none⟩) m m], .int .i64 1] w fun e w' => (∃ r : Int, 0 ≤ r ∧ e = .returned (.int .i64 r)) ∧ Chg (fun q => q = be ∨ q = bt) w w' := by
  have hb1 := (Below.refl w.heap.size w).alloc (Nat.le_refl _) (.cells #[.slice (some ⟨be, 0, none⟩) n n, .slice (some ⟨bt, 0, none⟩) m m] 25)
  have hA := (MapKept.heap_alloc w (.cells #[.slice (some ⟨be, 0, none⟩) n n, .slice (some ⟨bt, 0, none⟩) m m] 25)).1
  obtain ⟨Y, hY⟩ : ∃ Y, w.alloc (.cells #[.slice (some ⟨be, 0, none⟩) n n, .slice (some ⟨bt, 0, none⟩) m m] 25) = Y := ⟨_, rfl⟩
  rw [hY] at hb1 hA
  have HY := hid hY
  have HA := hid hA
  have HB := hid hb1
  have HE := hid (markEffS_any be n n F Y hn (h1.imp id (fun h => h.of_block (hb1.block be hbe))))
  have HNr := hid (h2.imp id (fun h => h.of_block (hb1.block bt hbt)))
  have HQ := hid (And.intro hn (And.intro hm (And.intro hlt (And.intro hbe hbt))))
  clear hb1 hA hY h1 h2 hn hm hlt hbe hbt
  go_enter Tryz.func8, Tryz.ntmps8
  go_wp2_with fail
  rw [HY.out]
  refine HE.out.mono ?_
  rintro e w2 ⟨rfl, hg⟩
  have c2 : Chg (fun q => q = be ∨ q = bt) w w2 := (Chg.of_below HB.out).trans (Chg.of_grown hg (Or.inl rfl))
  have hsz : Y.heap.size ≤ w2.heap.size := hg.size
  have hA2 := (hg.block w.heap.size (heap_lt HA.out) (fun e => by have := HQ.out; cases e; omega)).trans HA.out
  have hN2 := HNr.out.imp id (fun h => h.of_block (hg.block bt h.lt (fun e => by have := HQ.out; cases e; omega)))
  have q1 := cell_of_heap hA2 1
  simp at q1
  have HC2 := hid c2
  have HN2 := hid (markNodeS_fromAny bt m m (1 + 3 * (n : Int)) G w2 HQ.out.2.1 (by have := HQ.out.1; omega) hN2)
  have HR := hid (show (0 : Int) ≤ 1 + 3 * (n : Int) + 6 * (m : Int) by omega)
  clear c2 hsz hA2 hN2 hg HE HNr HY HA HB
  generalize 1 + 3 * (n : Int) = s1 at *
  go_wp2_with fail
  refine HN2.out.mono ?_
  rintro e w3 ⟨rfl, hg⟩
  have HC3 := hid (HC2.out.trans (Chg.of_grown hg (Or.inr rfl)))
  clear hg q1 HN2
  generalize s1 + 6 * (m : Int) = s2 at *
  go_wp2_with fail
  go_ret
  exact ⟨⟨s2, HR.out, rfl⟩, HC3.out⟩
end Go.Proofs.YtkdipppeljpgmaaGreatDoor

/- Marks that are put into a program, from a number on, are held by it. -/
namespace Go.Proofs.YtkdipppeljpgmaaGreatDoor
open Go.RowKit

/-- The marks of nodes from s on, told by the place of the cell. -/
def ndMarksS (s i : Nat) : Value := if i % 6 = 2 ∨ i % 6 = 3 ∨ i % 6 = 4 then .string (markOf (s + i)) else .int .i64 ((s : Int) + (i : Int))

/-- The marks of operations, told by the place of the cell. -/
def efMarks (i : Nat) : Value := if i % 3 = 0 then .string (markOf (1 + i)) else .int .i64 (1 + (i : Int))

theorem three_more {k : Nat} {f f' F : Nat → Value} (hf : ∀ i, i < k * 3 → f i = F i) (ho : ∀ i, i < k * 3 → f' i = f i) (h : ∀ c, c < 3 → f' (k * 3 + c) = F (k * 3 + c)) : ∀ i, i < (k + 1) * 3 → f' i = F i := by
  intro i hi
  by_cases hik : i < k * 3
  · rw [ho i hik, hf i hik]
  · have := h (i - k * 3) (by omega)
    rwa [show k * 3 + (i - k * 3) = i by omega] at this

set_option maxHeartbeats 4000000 in
set_option maxRecDepth 100000 in
theorem markNodeS_rowsS (s g n cap : Nat) (z : Int) (hz : z = (s : Int)) (hs : s ≤ 3200000) (F : Nat → Value) (w : World) (hm : n ≤ 1048576) (hr : CellRow 64 w g (n * 6) F) :
    Calls Tryz.prog 23 #[.slice (some ⟨g, 0, none⟩) n cap, .int .i64 z] w fun e w' => e = .returned (.int .i64 (z + 6 * (n : Int))) ∧ CellRow 64 w' g (n * 6) (ndMarksS s) ∧ w.grownBy w' (some g) := by
  obtain ⟨N, f, hf, hN, _⟩ := hr
  have HM : Hid (n ≤ 1048576) := hm
  have HZ : Hid (z = (s : Int) ∧ s ≤ 3200000) := ⟨hz, hs⟩
  clear hz hs
  clear hm
  go_enter Tryz.func23, Tryz.ntmps23
  go_wp2_with fail
  go_loopw [1, 5] (fun m i wr => ∃ (k : Nat) (x : Int) (f : Nat → Value), k ≤ n ∧ i = .int .i64 k ∧ m = .int .i64 x ∧ Hid (x = z + 6 * (k : Int)) ∧ Rw wr g 64 N f (n * 6) ∧ Hid (∀ j, j < k * 6 → f j = ndMarksS s j) ∧ w.grownBy wr (some g)) (fun _ i _ => n - (intOf i).toNat)
  case atStart => exact ⟨0, z, f, Nat.zero_le _, rfl, rfl, by show _ = _; simp, hf, fun j hj => by omega, kept_refl _ _⟩
  case round =>
    obtain ⟨k, x, f, hk, rfl, rfl, Hx, hrow, HF, hgr⟩ := hrel
    clear hf
    by_cases hkl : (k : Int) < (n : Int)
    · have HW := hid (wrap_sixS (s := z) (by have := HZ.out; omega) Hx.out (by omega) HM.out)
      have HC : Hid (∀ (c : Nat) (X : World), 2 ≤ c → c ≤ 4 → Calls Tryz.prog 51 #[.int .i64 (x + (c : Int))] X fun e w' => e = .returned (.string (markOf (s + (k * 6 + c)))) ∧ Below X.heap.size X w') := fun c X h1 h2 => by
        have := mark_callsZ (x + (c : Int)) (by show _ ∧ _; have := Hx.out; have := HZ.out; have := HM.out; omega) X
        rwa [show (x + (c : Int)).toNat = s + (k * 6 + c) by have := Hx.out; have := HZ.out; omega] at this
      have HC2 := hid (fun X => HC.out 2 X (by decide) (by decide))
      have HC3 := hid (fun X => HC.out 3 X (by decide) (by decide))
      have HC4 := hid (fun X => HC.out 4 X (by decide) (by decide))
      rw [show x + ((2 : Nat) : Int) = x + 1 + 1 by omega] at HC2
      rw [show x + ((3 : Nat) : Int) = x + 1 + 1 + 1 by omega] at HC3
      rw [show x + ((4 : Nat) : Int) = x + 1 + 1 + 1 + 1 by omega] at HC4
      have HB : Hid (ndMarksS s (k * 6 + 0) = .int .i64 x ∧ ndMarksS s (k * 6 + 1) = .int .i64 (x + 1) ∧ ndMarksS s (k * 6 + 2) = .string (markOf (s + (k * 6 + 2))) ∧ ndMarksS s (k * 6 + 3) = .string (markOf (s + (k * 6 + 3))) ∧ ndMarksS s (k * 6 + 4) = .string (markOf (s + (k * 6 + 4))) ∧ ndMarksS s (k * 6 + 5) = .int .i64 (x + 1 + 1 + 1 + 1 + 1)) := by
        have hx := Hx.out
        have hzz := HZ.out
        unfold ndMarksS
        refine ⟨?_, ?_, ?_, ?_, ?_, ?_⟩
        · rw [if_neg (by omega)]; congr 1; omega
        · rw [if_neg (by omega)]; congr 1; omega
        · rw [if_pos (by omega)]
        · rw [if_pos (by omega)]
        · rw [if_pos (by omega)]
        · rw [if_neg (by omega)]; congr 1; omega
      generalize markOf (s + (k * 6 + 2)) = m2 at *
      generalize markOf (s + (k * 6 + 3)) = m3 at *
      generalize markOf (s + (k * 6 + 4)) = m4 at *
      have q0 := hrow.cell (i := k * 6) (by omega)
      have q1 := hrow.cell (i := k * 6 + 1) (by omega)
      have z0 := hrow.frozen (k * 6) (by omega)
      have z1 := hrow.frozen (k * 6 + 1) (by omega)
      clear HC
      obtain ⟨e1, e2, e3, e4, e5, e6⟩ := HW.out
      have HE := hid (And.intro e1 (And.intro e2 (And.intro e3 (And.intro e4 (And.intro e5 e6)))))
      clear e1 e2 e3 e4 e5 e6 HW
      go_wp2_with fail
      obtain ⟨e1, e2, e3, e4, e5, e6⟩ := HE.out
      simp only [e1, e2]
      clear e1 e2 e3 e4 e5 e6
      refine (HC2.out _).mono ?_
      rintro e W1 ⟨rfl, hb1⟩
      obtain ⟨f0, r0, a0, o0⟩ := hrow.put (k * 6) (.int .i64 x)
      obtain ⟨f1, r1, a1, o1⟩ := r0.put (k * 6 + 1) (.int .i64 (x + 1))
      have r1' := r1.of_block (hb1.block g r1.lt)
      have hgr1 := kept_below (kept_set (kept_set hgr (k * 6) (.int .i64 x)) (k * 6 + 1) (.int .i64 (x + 1))) hb1
      have q2 := r1'.cell (i := k * 6 + 2) (by omega)
      have z2 := r1'.frozen (k * 6 + 2) (by omega)
      have HO0 := hid (And.intro a0 o0)
      have HO1 := hid (And.intro a1 o1)
      clear q0 q1 z0 z1 hrow r0 r1 hb1 hgr a0 o0 a1 o1 HC2
      go_wp2_with fail
      obtain ⟨e1, e2, e3, e4, e5, e6⟩ := HE.out
      simp only [e3]
      clear e1 e2 e3 e4 e5 e6
      refine (HC3.out _).mono ?_
      rintro e W2 ⟨rfl, hb2⟩
      obtain ⟨f2, r2, a2, o2⟩ := r1'.put (k * 6 + 2) (.string m2)
      have r2' := r2.of_block (hb2.block g r2.lt)
      have hgr2 := kept_below (kept_set hgr1 (k * 6 + 2) (.string m2)) hb2
      have q3 := r2'.cell (i := k * 6 + 3) (by omega)
      have z3 := r2'.frozen (k * 6 + 3) (by omega)
      have HO2 := hid (And.intro a2 o2)
      clear q2 z2 r1' r2 hb2 hgr1 a2 o2 HC3
      go_wp2_with fail
      obtain ⟨e1, e2, e3, e4, e5, e6⟩ := HE.out
      simp only [e4]
      clear e1 e2 e3 e4 e5 e6
      refine (HC4.out _).mono ?_
      rintro e W3 ⟨rfl, hb3⟩
      obtain ⟨f3, r3, a3, o3⟩ := r2'.put (k * 6 + 3) (.string m3)
      have r3' := r3.of_block (hb3.block g r3.lt)
      have hgr3 := kept_below (kept_set hgr2 (k * 6 + 3) (.string m3)) hb3
      have q4 := r3'.cell (i := k * 6 + 4) (by omega)
      have z4 := r3'.frozen (k * 6 + 4) (by omega)
      have q5 := r3'.cell (i := k * 6 + 5) (by omega)
      have z5 := r3'.frozen (k * 6 + 5) (by omega)
      have HO3 := hid (And.intro a3 o3)
      clear q3 z3 r2' r3 hb3 hgr2 a3 o3 HC4
      go_wp2_with fail
      obtain ⟨e1, e2, e3, e4, e5, e6⟩ := HE.out
      simp only [e5, e6]
      obtain ⟨f4, r4, a4, o4⟩ := r3'.put (k * 6 + 4) (.string m4)
      obtain ⟨f5, r5, a5, o5⟩ := r4.put (k * 6 + 5) (.int .i64 (x + 1 + 1 + 1 + 1 + 1))
      obtain ⟨a0, o0⟩ := HO0.out
      obtain ⟨a1, o1⟩ := HO1.out
      obtain ⟨a2, o2⟩ := HO2.out
      obtain ⟨a3, o3⟩ := HO3.out
      obtain ⟨b0, b1, b2, b3, b4, b5⟩ := HB.out
      rw [wrap_inc (n := n) (by omega) HM.out]
      have hs : n - (intOf (.int .i64 ((k + 1 : Nat) : Int))).toNat < n - (intOf (.int .i64 (k : Int))).toNat := by simp only [intOf, Int.toNat_natCast]; omega
      have hx := Hx.out
      have hzz := HZ.out
      refine ⟨⟨k + 1, x + 1 + 1 + 1 + 1 + 1 + 1, f5, by omega, rfl, rfl, by show _ = _; omega, r5, six_more HF.out (fun i hi => ?_) (fun c hc => ?_), kept_set (kept_set hgr3 _ _) _ _⟩, hs⟩
      · rw [o5 i (by omega), o4 i (by omega), o3 i (by omega), o2 i (by omega), o1 i (by omega), o0 i (by omega)]
      · match c, hc with
        | 0, _ => rw [o5 _ (by omega), o4 _ (by omega), o3 _ (by omega), o2 _ (by omega), o1 _ (by omega), b0]; exact a0
        | 1, _ => rw [o5 _ (by omega), o4 _ (by omega), o3 _ (by omega), o2 _ (by omega), a1, b1]
        | 2, _ => rw [o5 _ (by omega), o4 _ (by omega), o3 _ (by omega), a2, b2]
        | 3, _ => rw [o5 _ (by omega), o4 _ (by omega), a3, b3]
        | 4, _ => rw [o5 _ (by omega), a4, b4]
        | 5, _ => rw [a5, b5]
    · have hkn : k = n := by omega
      subst hkn
      have HX : Hid (x = z + 6 * (k : Int)) := Hx
      clear Hx
      go_wp2_with fail
      go_ret
      exact ⟨by rw [← HX.out]; rfl, ⟨N, f, hrow, hN, HF.out⟩, hgr⟩

set_option maxHeartbeats 4000000 in
set_option maxRecDepth 100000 in
theorem heldNodeS_rowsS (s g n cap : Nat) (z : Int) (hz : z = (s : Int)) (hs : s ≤ 3200000) (w : World) (hm : n ≤ 1048576) (hr : CellRow 64 w g (n * 6) (ndMarksS s)) :
    Calls Tryz.prog 25 #[.slice (some ⟨g, 0, none⟩) n cap, .int .i64 z] w fun e w' => e = .returned (.int .i64 (z + 6 * (n : Int))) ∧ Below w.heap.size w w' := by
  have HM : Hid (n ≤ 1048576) := hm
  have HZ : Hid (z = (s : Int) ∧ s ≤ 3200000) := ⟨hz, hs⟩
  clear hz hs
  have HR := hid hr
  clear hm hr
  go_enter Tryz.func25, Tryz.ntmps25
  go_wp2_with fail
  go_loopw [1, 5] (fun m i wr => ∃ (k : Nat) (x : Int), k ≤ n ∧ i = .int .i64 k ∧ m = .int .i64 x ∧ Hid (x = z + 6 * (k : Int)) ∧ Below w.heap.size w wr) (fun _ i _ => n - (intOf i).toNat)
  case atStart => exact ⟨0, z, Nat.zero_le _, rfl, rfl, by show _ = _; simp, Below.refl _ _⟩
  case round =>
    obtain ⟨k, x, hk, rfl, rfl, Hx, hnx⟩ := hrel
    by_cases hkl : (k : Int) < (n : Int)
    · have HW := hid (wrap_sixS (s := z) (by have := HZ.out; omega) Hx.out (by omega) HM.out)
      have HC : Hid (∀ (c : Nat) (X : World), 2 ≤ c → c ≤ 4 → Calls Tryz.prog 51 #[.int .i64 (x + (c : Int))] X fun e w' => e = .returned (.string (markOf (s + (k * 6 + c)))) ∧ Below X.heap.size X w') := fun c X h1 h2 => by
        have := mark_callsZ (x + (c : Int)) (by show _ ∧ _; have := Hx.out; have := HZ.out; have := HM.out; omega) X
        rwa [show (x + (c : Int)).toNat = s + (k * 6 + c) by have := Hx.out; have := HZ.out; omega] at this
      have HC2 := hid (fun X => HC.out 2 X (by decide) (by decide))
      have HC3 := hid (fun X => HC.out 3 X (by decide) (by decide))
      have HC4 := hid (fun X => HC.out 4 X (by decide) (by decide))
      rw [show x + ((2 : Nat) : Int) = x + 1 + 1 by omega] at HC2
      rw [show x + ((3 : Nat) : Int) = x + 1 + 1 + 1 by omega] at HC3
      rw [show x + ((4 : Nat) : Int) = x + 1 + 1 + 1 + 1 by omega] at HC4
      have hcl : ∀ (X : World), Below w.heap.size w X → ∀ c, c < 6 → X.cell? ⟨g, k * 6 + c, none⟩ = some (ndMarksS s (k * 6 + c)) := fun X hX c hc => (hX.cell (p := ⟨g, k * 6 + c, none⟩) HR.out.lt).trans (HR.out.cell (by omega))
      have HB : ndMarksS s (k * 6 + 0) = .int .i64 x ∧ ndMarksS s (k * 6 + 1) = .int .i64 (x + 1) ∧ ndMarksS s (k * 6 + 2) = .string (markOf (s + (k * 6 + 2))) ∧ ndMarksS s (k * 6 + 3) = .string (markOf (s + (k * 6 + 3))) ∧ ndMarksS s (k * 6 + 4) = .string (markOf (s + (k * 6 + 4))) ∧ ndMarksS s (k * 6 + 5) = .int .i64 (x + 1 + 1 + 1 + 1 + 1) := by
        have hx := Hx.out
        have hzz := HZ.out
        unfold ndMarksS
        refine ⟨?_, ?_, ?_, ?_, ?_, ?_⟩
        · rw [if_neg (by omega)]; congr 1; omega
        · rw [if_neg (by omega)]; congr 1; omega
        · rw [if_pos (by omega)]
        · rw [if_pos (by omega)]
        · rw [if_pos (by omega)]
        · rw [if_neg (by omega)]; congr 1; omega
      generalize markOf (s + (k * 6 + 2)) = m2 at *
      generalize markOf (s + (k * 6 + 3)) = m3 at *
      generalize markOf (s + (k * 6 + 4)) = m4 at *
      have HCl : Hid (∀ (X : World), Below w.heap.size w X → X.cell? ⟨g, k * 6, none⟩ = some (.int .i64 x) ∧ X.cell? ⟨g, k * 6 + 1, none⟩ = some (.int .i64 (wrap64 (x + 1))) ∧ X.cell? ⟨g, k * 6 + 2, none⟩ = some (.string m2) ∧ X.cell? ⟨g, k * 6 + 3, none⟩ = some (.string m3) ∧ X.cell? ⟨g, k * 6 + 4, none⟩ = some (.string m4) ∧ X.cell? ⟨g, k * 6 + 5, none⟩ = some (.int .i64 (x + 1 + 1 + 1 + 1 + 1))) := fun X hX => by
        obtain ⟨b0, b1, b2, b3, b4, b5⟩ := HB
        refine ⟨by have := hcl X hX 0 (by omega); rwa [b0] at this, ?_, by have := hcl X hX 2 (by omega); rwa [b2] at this, by have := hcl X hX 3 (by omega); rwa [b3] at this, by have := hcl X hX 4 (by omega); rwa [b4] at this, by have := hcl X hX 5 (by omega); rwa [b5] at this⟩
        have := hcl X hX 1 (by omega)
        rw [b1] at this
        rw [HW.out.1]
        exact this
      obtain ⟨q0, q1, -⟩ := HCl.out wr hnx
      have HNx := hid hnx
      have hi0 : (0 : Int) ≤ (k : Int) := by omega
      clear HC hcl HB hnx
      go_upto_region 10 with fail
      obtain ⟨e1, e2, e3, e4, e5, e6⟩ := HW.out
      simp only [e1, e2]
      clear e1 e2 e3 e4 e5 e6 q0 q1
      have q2 : ∀ y : Later wr.heap.size wr, y.w.cell? ⟨g, k * 6 + 2, none⟩ = some (.string m2) := fun y => (HCl.out y.w (HNx.out.trans (y.h.mono HNx.out.size))).2.2.1
      refine wp_region_calm wr.heap.size (by kernel_rfl) (by kernel_rfl) ?_
      repeat (go_big_quiet_step (first | (rename_i y; go_at_call 51; refine (HC2.out _).mono ?_; rintro e w5 ⟨rfl, hb5⟩; exact ⟨rfl, ⟨w5, y.h.trans (hb5.mono y.h.size)⟩, rfl⟩)))
      refine wpQuiet_nil ?_
      rintro w6 ⟨y, rfl⟩
      have HN1 := hid (HNx.out.trans (y.h.mono HNx.out.size))
      generalize y.w = X1 at *
      clear q2 HC2 HNx
      go_upto_region 13 with fail
      obtain ⟨e1, e2, e3, e4, e5, e6⟩ := HW.out
      simp only [e3]
      clear e1 e2 e3 e4 e5 e6
      have q3 : ∀ y : Later X1.heap.size X1, y.w.cell? ⟨g, k * 6 + 3, none⟩ = some (.string m3) := fun y => (HCl.out y.w (HN1.out.trans (y.h.mono HN1.out.size))).2.2.2.1
      refine wp_region_calm X1.heap.size (by kernel_rfl) (by kernel_rfl) ?_
      repeat (go_big_quiet_step (first | (rename_i y; go_at_call 51; refine (HC3.out _).mono ?_; rintro e w5 ⟨rfl, hb5⟩; exact ⟨rfl, ⟨w5, y.h.trans (hb5.mono y.h.size)⟩, rfl⟩)))
      refine wpQuiet_nil ?_
      rintro w6 ⟨y2, rfl⟩
      have HN2 := hid (HN1.out.trans (y2.h.mono HN1.out.size))
      generalize y2.w = X2 at *
      clear q3 HC3 HN1
      go_upto_region 16 with fail
      obtain ⟨e1, e2, e3, e4, e5, e6⟩ := HW.out
      simp only [e4]
      clear e1 e2 e3 e4 e5 e6
      have q4 : ∀ y : Later X2.heap.size X2, y.w.cell? ⟨g, k * 6 + 4, none⟩ = some (.string m4) := fun y => (HCl.out y.w (HN2.out.trans (y.h.mono HN2.out.size))).2.2.2.2.1
      refine wp_region_calm X2.heap.size (by kernel_rfl) (by kernel_rfl) ?_
      repeat (go_big_quiet_step (first | (rename_i y; go_at_call 51; refine (HC4.out _).mono ?_; rintro e w5 ⟨rfl, hb5⟩; exact ⟨rfl, ⟨w5, y.h.trans (hb5.mono y.h.size)⟩, rfl⟩)))
      refine wpQuiet_nil ?_
      rintro w6 ⟨y3, rfl⟩
      have HN3 := hid (HN2.out.trans (y3.h.mono HN2.out.size))
      generalize y3.w = X3 at *
      clear q4 HC4 HN2
      obtain ⟨-, -, -, -, -, q5⟩ := HCl.out X3 HN3.out
      have HW5 : Hid (wrap64 (x + 1 + 1 + 1 + 1 + 1) = x + 1 + 1 + 1 + 1 + 1) := HW.out.2.2.2.2.1
      have q5' : X3.cell? ⟨g, k * 6 + 5, none⟩ = some (.int .i64 (wrap64 (x + 1 + 1 + 1 + 1 + 1))) := by rw [HW5.out]; exact q5
      clear q5
      go_wp2_with fail
      obtain ⟨e1, e2, e3, e4, e5, e6⟩ := HW.out
      simp only [e5, e6]
      rw [wrap_inc (n := n) (by omega) HM.out]
      have hs : n - (intOf (.int .i64 ((k + 1 : Nat) : Int))).toNat < n - (intOf (.int .i64 (k : Int))).toNat := by simp only [intOf, Int.toNat_natCast]; omega
      have hx := Hx.out
      have hzz := HZ.out
      exact ⟨⟨k + 1, x + 1 + 1 + 1 + 1 + 1 + 1, by omega, rfl, rfl, by show _ = _; omega, HN3.out⟩, hs⟩
    · have hkn : k = n := by omega
      subst hkn
      have HX : Hid (x = z + 6 * (k : Int)) := Hx
      clear Hx
      go_wp2_with fail
      go_ret
      exact ⟨by rw [← HX.out]; rfl, hnx⟩

set_option maxHeartbeats 4000000 in
set_option maxRecDepth 100000 in
theorem markEffS_rowsM (g n cap : Nat) (F : Nat → Value) (w : World) (hm : n ≤ 1048576) (hr : CellRow 59 w g (n * 3) F) :
    Calls Tryz.prog 22 #[.slice (some ⟨g, 0, none⟩) n cap, .int .i64 1] w fun e w' => e = .returned (.int .i64 (1 + 3 * (n : Int))) ∧ CellRow 59 w' g (n * 3) efMarks ∧ w.grownBy w' (some g) := by
  obtain ⟨N, f, hf, hN, _⟩ := hr
  have HM : Hid (n ≤ 1048576) := hm
  clear hm
  go_enter Tryz.func22, Tryz.ntmps22
  go_wp2_with fail
  go_loopw [1, 5] (fun m i wr => ∃ (k : Nat) (x : Int) (f : Nat → Value), k ≤ n ∧ i = .int .i64 k ∧ m = .int .i64 x ∧ Hid (x = 1 + 3 * (k : Int)) ∧ Rw wr g 59 N f (n * 3) ∧ Hid (∀ j, j < k * 3 → f j = efMarks j) ∧ w.grownBy wr (some g)) (fun _ i _ => n - (intOf i).toNat)
  case atStart => exact ⟨0, 1, f, Nat.zero_le _, rfl, rfl, by show _ = _; simp, hf, fun j hj => by omega, kept_refl _ _⟩
  case round =>
    obtain ⟨k, x, f, hk, rfl, rfl, Hx, hrow, HF, hgr⟩ := hrel
    clear hf
    by_cases hkl : (k : Int) < (n : Int)
    · have HW := hid (wrap_three Hx.out (by omega) HM.out)
      have HC := hid (fun X => mark_callsZ x (by show _ ∧ _; have := Hx.out; have := HM.out; omega) X)
      have HB : Hid (efMarks (k * 3 + 0) = .string (markOf x.toNat) ∧ efMarks (k * 3 + 1) = .int .i64 (x + 1) ∧ efMarks (k * 3 + 2) = .int .i64 (x + 1 + 1)) := by
        have hx := Hx.out
        unfold efMarks
        refine ⟨?_, ?_, ?_⟩
        · rw [if_pos (by omega), show x.toNat = 1 + (k * 3 + 0) by omega]
        · rw [if_neg (by omega)]; congr 1; omega
        · rw [if_neg (by omega)]; congr 1; omega
      generalize markOf x.toNat = m2 at *
      have q0 := hrow.cell (i := k * 3) (by omega)
      have z0 := hrow.frozen (k * 3) (by omega)
      go_wp2_with fail
      refine (HC.out _).mono ?_
      rintro e W1 ⟨rfl, hb1⟩
      have r1' := hrow.of_block (hb1.block g hrow.lt)
      have hgr1 := kept_below hgr hb1
      have q0 := r1'.cell (i := k * 3) (by omega)
      have q1 := r1'.cell (i := k * 3 + 1) (by omega)
      have q2 := r1'.cell (i := k * 3 + 2) (by omega)
      have z0 := r1'.frozen (k * 3) (by omega)
      have z1 := r1'.frozen (k * 3 + 1) (by omega)
      have z2 := r1'.frozen (k * 3 + 2) (by omega)
      clear hrow hb1 hgr HC
      go_wp2_with fail
      obtain ⟨e1, e2, e3⟩ := HW.out
      simp only [e1, e2, e3]
      obtain ⟨f0, r0, a0, o0⟩ := r1'.put (k * 3) (.string m2)
      obtain ⟨f1, r1, a1, o1⟩ := r0.put (k * 3 + 1) (.int .i64 (x + 1))
      obtain ⟨f2, r2, a2, o2⟩ := r1.put (k * 3 + 2) (.int .i64 (x + 1 + 1))
      obtain ⟨b0, b1, b2⟩ := HB.out
      rw [wrap_inc (n := n) (by omega) HM.out]
      have hs : n - (intOf (.int .i64 ((k + 1 : Nat) : Int))).toNat < n - (intOf (.int .i64 (k : Int))).toNat := by simp only [intOf, Int.toNat_natCast]; omega
      have hx := Hx.out
      refine ⟨⟨k + 1, x + 1 + 1 + 1, f2, by omega, rfl, rfl, by show _ = _; omega, r2, three_more HF.out (fun i hi => ?_) (fun c hc => ?_), kept_set (kept_set (kept_set hgr1 _ _) _ _) _ _⟩, hs⟩
      · rw [o2 i (by omega), o1 i (by omega), o0 i (by omega)]
      · match c, hc with
        | 0, _ => rw [o2 _ (by omega), o1 _ (by omega), b0]; exact a0
        | 1, _ => rw [o2 _ (by omega), a1, b1]
        | 2, _ => rw [a2, b2]
    · have hkn : k = n := by omega
      subst hkn
      have HX : Hid (x = 1 + 3 * (k : Int)) := Hx
      clear Hx
      go_wp2_with fail
      go_ret
      exact ⟨by rw [← HX.out]; rfl, ⟨N, f, hrow, hN, HF.out⟩, hgr⟩

set_option maxHeartbeats 4000000 in
set_option maxRecDepth 100000 in
theorem heldEffS_rowsM (g n cap : Nat) (w : World) (hm : n ≤ 1048576) (hr : CellRow 59 w g (n * 3) efMarks) :
    Calls Tryz.prog 24 #[.slice (some ⟨g, 0, none⟩) n cap, .int .i64 1] w fun e w' => e = .returned (.int .i64 (1 + 3 * (n : Int))) ∧ Below w.heap.size w w' := by
  have HM : Hid (n ≤ 1048576) := hm
  have HR := hid hr
  clear hm hr
  go_enter Tryz.func24, Tryz.ntmps24
  go_wp2_with fail
  go_loopw [1, 5] (fun m i wr => ∃ (k : Nat) (x : Int), k ≤ n ∧ i = .int .i64 k ∧ m = .int .i64 x ∧ Hid (x = 1 + 3 * (k : Int)) ∧ Below w.heap.size w wr) (fun _ i _ => n - (intOf i).toNat)
  case atStart => exact ⟨0, 1, Nat.zero_le _, rfl, rfl, by show _ = _; simp, Below.refl _ _⟩
  case round =>
    obtain ⟨k, x, hk, rfl, rfl, Hx, hnx⟩ := hrel
    by_cases hkl : (k : Int) < (n : Int)
    · have HW := hid (wrap_three Hx.out (by omega) HM.out)
      have HC := hid (fun X => mark_callsZ x (by show _ ∧ _; have := Hx.out; have := HM.out; omega) X)
      have hcl : ∀ (X : World), Below w.heap.size w X → ∀ c, c < 3 → X.cell? ⟨g, k * 3 + c, none⟩ = some (efMarks (k * 3 + c)) := fun X hX c hc => (hX.cell (p := ⟨g, k * 3 + c, none⟩) HR.out.lt).trans (HR.out.cell (by omega))
      have HB : efMarks (k * 3 + 0) = .string (markOf x.toNat) ∧ efMarks (k * 3 + 1) = .int .i64 (x + 1) ∧ efMarks (k * 3 + 2) = .int .i64 (x + 1 + 1) := by
        have hx := Hx.out
        unfold efMarks
        refine ⟨?_, ?_, ?_⟩
        · rw [if_pos (by omega), show x.toNat = 1 + (k * 3 + 0) by omega]
        · rw [if_neg (by omega)]; congr 1; omega
        · rw [if_neg (by omega)]; congr 1; omega
      generalize markOf x.toNat = m2 at *
      have HCl : Hid (∀ (X : World), Below w.heap.size w X → X.cell? ⟨g, k * 3, none⟩ = some (.string m2) ∧ X.cell? ⟨g, k * 3 + 1, none⟩ = some (.int .i64 (wrap64 (x + 1))) ∧ X.cell? ⟨g, k * 3 + 2, none⟩ = some (.int .i64 (wrap64 (wrap64 (x + 1) + 1)))) := fun X hX => by
        obtain ⟨b0, b1, b2⟩ := HB
        refine ⟨by have := hcl X hX 0 (by omega); rwa [b0] at this, ?_, ?_⟩
        · have := hcl X hX 1 (by omega)
          rw [b1] at this
          rw [HW.out.1]
          exact this
        · have := hcl X hX 2 (by omega)
          rw [b2] at this
          rw [HW.out.1, HW.out.2.1]
          exact this
      have HNx := hid hnx
      have hi0 : (0 : Int) ≤ (k : Int) := by omega
      clear hcl HB hnx
      go_upto_region 4 with fail
      have q2 : ∀ y : Later wr.heap.size wr, y.w.cell? ⟨g, k * 3, none⟩ = some (.string m2) := fun y => (HCl.out y.w (HNx.out.trans (y.h.mono HNx.out.size))).1
      refine wp_region_calm wr.heap.size (by kernel_rfl) (by kernel_rfl) ?_
      repeat (go_big_quiet_step (first | (rename_i y; go_at_call 51; refine (HC.out _).mono ?_; rintro e w5 ⟨rfl, hb5⟩; exact ⟨rfl, ⟨w5, y.h.trans (hb5.mono y.h.size)⟩, rfl⟩)))
      refine wpQuiet_nil ?_
      rintro w6 ⟨y, rfl⟩
      have HN1 := hid (HNx.out.trans (y.h.mono HNx.out.size))
      generalize y.w = X1 at *
      obtain ⟨-, q1, q3⟩ := HCl.out X1 HN1.out
      clear q2 HC HNx HCl
      go_wp2_with fail
      obtain ⟨e1, e2, e3⟩ := HW.out
      simp only [e1, e2, e3]
      rw [wrap_inc (n := n) (by omega) HM.out]
      have hs : n - (intOf (.int .i64 ((k + 1 : Nat) : Int))).toNat < n - (intOf (.int .i64 (k : Int))).toNat := by simp only [intOf, Int.toNat_natCast]; omega
      have hx := Hx.out
      exact ⟨⟨k + 1, x + 1 + 1 + 1, by omega, rfl, rfl, by show _ = _; omega, HN1.out⟩, hs⟩
    · have hkn : k = n := by omega
      subst hkn
      have HX : Hid (x = 1 + 3 * (k : Int)) := Hx
      clear Hx
      go_wp2_with fail
      go_ret
      exact ⟨by rw [← HX.out]; rfl, hnx⟩

set_option maxRecDepth 100000 in
theorem heldEffS_zero (ad : Option Addr) (cap : Nat) (w : World) :
    Calls Tryz.prog 24 #[.slice ad 0 cap, .int .i64 1] w fun e w' => e = .returned (.int .i64 1) ∧ w = w' := by
  go_enter Tryz.func24, Tryz.ntmps24
  go_wp2
  refine wp_loop_rounds 1 ?_
  rw [rounds_succ]
  go_wp2
  go_ret
  exact ⟨rfl, rfl⟩

set_option maxRecDepth 100000 in
theorem heldNodeS_zero (ad : Option Addr) (cap : Nat) (s : Int) (w : World) :
    Calls Tryz.prog 25 #[.slice ad 0 cap, .int .i64 s] w fun e w' => e = .returned (.int .i64 s) ∧ w = w' := by
  go_enter Tryz.func25, Tryz.ntmps25
  go_wp2
  refine wp_loop_rounds 1 ?_
  rw [rounds_succ]
  go_wp2
  go_ret
  exact ⟨rfl, rfl⟩

theorem markEffS_anyM {B n : Nat} {v : Value} {F : Nat → Value} (w : World) (hm : n ≤ 1048576) (h : SliceR 59 3 B w v n F) :
    Calls Tryz.prog 22 #[v, .int .i64 1] w fun e w' => e = .returned (.int .i64 (1 + 3 * (n : Int))) ∧ SliceR 59 3 B w' v n efMarks ∧ Turned w w' v n := by
  obtain ⟨ad, cap, rfl, h⟩ := h
  by_cases h0 : n = 0
  · subst h0
    refine (markEffS_none ad cap w).mono ?_
    rintro e w' ⟨rfl, rfl⟩
    exact ⟨by simp, ⟨ad, cap, rfl, Or.inl rfl⟩, none, kept_refl _ _, Or.inl rfl⟩
  · obtain ⟨g, rfl, hB, hr⟩ := h.resolve_left h0
    refine (markEffS_rowsM g n cap F w hm hr).mono ?_
    rintro e w' ⟨rfl, hr', hg⟩
    exact ⟨rfl, ⟨_, cap, rfl, Or.inr ⟨g, rfl, hB, hr'⟩⟩, some g, hg, Or.inr ⟨h0, rfl⟩⟩

theorem heldEffS_anyM {B n : Nat} {v : Value} (w : World) (hm : n ≤ 1048576) (h : SliceR 59 3 B w v n efMarks) :
    Calls Tryz.prog 24 #[v, .int .i64 1] w fun e w' => e = .returned (.int .i64 (1 + 3 * (n : Int))) ∧ Below w.heap.size w w' := by
  obtain ⟨ad, cap, rfl, h⟩ := h
  by_cases h0 : n = 0
  · subst h0
    refine (heldEffS_zero ad cap w).mono ?_
    rintro e w' ⟨rfl, rfl⟩
    exact ⟨by simp, Below.refl _ _⟩
  · obtain ⟨g, rfl, hB, hr⟩ := h.resolve_left h0
    exact heldEffS_rowsM g n cap w hm hr

theorem markNodeS_anyM {B n s : Nat} {v : Value} {F : Nat → Value} (z : Int) (hz : z = (s : Int)) (hs : s ≤ 3200000) (w : World) (hm : n ≤ 1048576) (h : SliceR 64 6 B w v n F) :
    Calls Tryz.prog 23 #[v, .int .i64 z] w fun e w' => e = .returned (.int .i64 (z + 6 * (n : Int))) ∧ SliceR 64 6 B w' v n (ndMarksS s) ∧ Turned w w' v n := by
  obtain ⟨ad, cap, rfl, h⟩ := h
  by_cases h0 : n = 0
  · subst h0
    refine (markNodeS_zero ad cap z w).mono ?_
    rintro e w' ⟨rfl, rfl⟩
    exact ⟨by simp, ⟨ad, cap, rfl, Or.inl rfl⟩, none, kept_refl _ _, Or.inl rfl⟩
  · obtain ⟨g, rfl, hB, hr⟩ := h.resolve_left h0
    refine (markNodeS_rowsS s g n cap z hz hs F w hm hr).mono ?_
    rintro e w' ⟨rfl, hr', hg⟩
    exact ⟨rfl, ⟨_, cap, rfl, Or.inr ⟨g, rfl, hB, hr'⟩⟩, some g, hg, Or.inr ⟨h0, rfl⟩⟩

theorem heldNodeS_anyM {B n s : Nat} {v : Value} (z : Int) (hz : z = (s : Int)) (hs : s ≤ 3200000) (w : World) (hm : n ≤ 1048576) (h : SliceR 64 6 B w v n (ndMarksS s)) :
    Calls Tryz.prog 25 #[v, .int .i64 z] w fun e w' => e = .returned (.int .i64 (z + 6 * (n : Int))) ∧ Below w.heap.size w w' := by
  obtain ⟨ad, cap, rfl, h⟩ := h
  by_cases h0 : n = 0
  · subst h0
    refine (heldNodeS_zero ad cap z w).mono ?_
    rintro e w' ⟨rfl, rfl⟩
    exact ⟨by simp, Below.refl _ _⟩
  · obtain ⟨g, rfl, hB, hr⟩ := h.resolve_left h0
    exact heldNodeS_rowsS s g n cap z hz hs w hm hr
end Go.Proofs.YtkdipppeljpgmaaGreatDoor

/- What both ProgReads answer, told alike; what the law's helpers do to such answers. -/
namespace Go.Proofs.YtkdipppeljpgmaaGreatDoor
open Go.RowKit Go.Deep

def esR (r : Except (Int × Nat) (List Ef × Tr)) : List Ef := match r with | .error _ => [] | .ok x => x.1
def nsR (r : Except (Int × Nat) (List Ef × Tr)) : List Nd := match r with | .error _ => [] | .ok x => Tr.flat x.2
def kR (r : Except (Int × Nat) (List Ef × Tr)) : Int := match r with | .error x => x.1 | .ok _ => 0
def aR (r : Except (Int × Nat) (List Ef × Tr)) : Int := match r with | .error x => (x.2 : Int) | .ok _ => 0

theorem readZ_few (t : ByteArray) (T : List Nd → Bool) : (esR (readZ t T)).length ≤ 8 ∧ (nsR (readZ t T)).length ≤ 300 := by
  unfold readZ
  split
  · exact ⟨Nat.zero_le _, Nat.zero_le _⟩
  · split
    · exact ⟨Nat.zero_le _, Nat.zero_le _⟩
    · split
      · exact ⟨Nat.zero_le _, Nat.zero_le _⟩
      · split
        · exact ⟨Nat.zero_le _, Nat.zero_le _⟩
        · rename_i h
          split
          · exact ⟨Nat.zero_le _, Nat.zero_le _⟩
          · split
            · exact ⟨by simp only [esR]; omega, by simp only [nsR]; omega⟩
            · exact ⟨Nat.zero_le _, Nat.zero_le _⟩

theorem lies_effs {d : Dr} {W : World} {v : Value} {es : List Ef} (h : Lies d W v es.length 3 (fun i => Ef.cell (es.getD (i / 3) default) (i % 3))) : EffSlice W v es := by
  rcases h with ⟨rfl, h0⟩ | ⟨b, off, cap, rfl, -, rfl, hf, hc⟩
  · exact ⟨none, 0, by rw [h0], Or.inl (List.eq_nil_of_length_eq_zero h0)⟩
  · refine ⟨_, cap, rfl, Or.inr ⟨b, 0, rfl, hf.1, fun k hk c hc' => ?_⟩⟩
    have := hc (k * 3 + c) (by omega)
    dsimp only at this
    rw [show (k * 3 + c) / 3 = k by omega, show (k * 3 + c) % 3 = c by omega] at this
    rw [← this, Nat.add_assoc]

theorem lies_nodes {d : Dr} {W : World} {v : Value} {ns : List Nd} (h : NodesD d W v ns) : NodeSlice W v ns := by
  rcases h.1 with ⟨rfl, h0⟩ | ⟨b, off, cap, rfl, -, rfl, hf, hc⟩
  · exact ⟨none, 0, by rw [h0], Or.inl (List.eq_nil_of_length_eq_zero h0)⟩
  · refine ⟨_, cap, rfl, Or.inr ⟨b, 0, rfl, hf.1, fun k hk c hc' => ?_⟩⟩
    have := hc (k * 6 + c) (by omega)
    dsimp only at this
    rw [show (k * 6 + c) / 6 = k by omega, show (k * 6 + c) % 6 = c by omega] at this
    rw [← this, Nat.add_assoc]

theorem spec_ends (t : ByteArray) (T : List Nd → Bool) (hT : ∀ ns, SpecAns ns (T ns)) (W : World) :
    Calls Tryz.prog 4 #[.string t] W fun e W' => ∃ ve vt, e = .returned (.tuple #[.agg #[ve, vt], .agg #[.int .i64 (kR (readZ t T)), .int .i64 (aR (readZ t T))]]) ∧ EffSlice W' ve (esR (readZ t T)) ∧ NodeSlice W' vt (nsR (readZ t T)) ∧ Below W.heap.size W W' := by
  refine (progRead_calls t T hT W).mono ?_
  rintro e W' ⟨h, hb⟩
  generalize readZ t T = r at *
  cases r with
  | error x => exact ⟨_, _, h, ⟨none, 0, rfl, Or.inl rfl⟩, ⟨none, 0, rfl, Or.inl rfl⟩, hb⟩
  | ok x =>
    obtain ⟨d, ve, vt, he, h1, h2, -⟩ := h
    exact ⟨ve, vt, he, lies_effs h1, lies_nodes h2, hb⟩

theorem owns_sliceR {α : Type} [Inhabited α] {f : α → Nat → Value} {sz : Nat} (hz : 0 < sz) {B : Nat} {W : World} {t : TypeId} {v : Value} {l : List α} (h : W.ownsRow B t sz v l.length (rowZ f sz l)) : SliceR t sz B W v l.length (fun i => f (l.getD (i / sz) default) (i % sz)) := by
  obtain ⟨ad, cap, e, h⟩ := sliceR_of_owns h
  refine ⟨ad, cap, e, h.imp id ?_⟩
  rintro ⟨g, e1, hB, hr⟩
  refine ⟨g, e1, hB, hr.congr (fun i hi => ?_)⟩
  show (rowZ f sz l).getD i undef = _
  rw [List.getD_eq_getElem?_getD, rowZ_get f sz hz l i hi]
  rfl

theorem impl_ends (t : ByteArray) (T : List Nd → Bool) (hT : ∀ ns, ImplAns ns (T ns)) (W : World) :
    Calls Tryz.prog 5 #[.string t] W fun e W' => ∃ ve vt, e = .returned (.tuple #[.agg #[ve, vt], .agg #[.int .i64 (kR (readZ t T)), .int .i64 (aR (readZ t T))]]) ∧ SliceR 59 3 W.heap.size W' ve (esR (readZ t T)).length (efF (esR (readZ t T))) ∧ SliceR 64 6 W.heap.size W' vt (nsR (readZ t T)).length (ndF (nsR (readZ t T))) ∧ Below W.heap.size W W' := by
  refine (implRead_calls t T hT W).mono ?_
  intro e W' h
  generalize readZ t T = r at *
  cases r with
  | error x => exact ⟨_, _, h.1, ⟨none, 0, rfl, Or.inl rfl⟩, ⟨none, 0, rfl, Or.inl rfl⟩, h.2⟩
  | ok x =>
    obtain ⟨ve, vt, he, h1, h2, hb⟩ := h
    exact ⟨ve, vt, he, owns_sliceR (by decide) h1, owns_sliceR (by decide) h2, hb⟩

theorem SliceR.effS {B : Nat} {w : World} {v : Value} {es : List Ef} (h : SliceR 59 3 B w v es.length (efF es)) : EffSlice w v es := by
  obtain ⟨ad, cap, rfl, h⟩ := h
  refine ⟨ad, cap, rfl, h.imp List.eq_nil_of_length_eq_zero ?_⟩
  rintro ⟨g, rfl, -, hr⟩
  exact ⟨g, 0, rfl, hr.lt, hr.effs⟩

theorem SliceR.nodeS {B : Nat} {w : World} {v : Value} {ns : List Nd} (h : SliceR 64 6 B w v ns.length (ndF ns)) : NodeSlice w v ns := by
  obtain ⟨ad, cap, rfl, h⟩ := h
  refine ⟨ad, cap, rfl, h.imp List.eq_nil_of_length_eq_zero ?_⟩
  rintro ⟨g, rfl, -, hr⟩
  exact ⟨g, 0, rfl, hr.lt, hr.nodes⟩

theorem SliceR.insideN {t : TypeId} {sz B : Nat} {w : World} {v : Value} {n : Nat} {F : Nat → Value} (h : SliceR t sz B w v n F) : n ≠ 0 → ∀ q, v.ownBlock = some q → q < w.heap.size := fun h0 q e => by
  obtain ⟨g, e1, -, h2⟩ := h.block h0
  rw [e1] at e
  cases e
  exact h2

/-- Rows of things of two types are two blocks. -/
theorem rows_apart {t t' : TypeId} (ht : t ≠ t') {sz sz' B B' n m : Nat} {w : World} {v u : Value} {F G : Nat → Value} (h : SliceR t sz B w v n F) (h' : SliceR t' sz' B' w u m G) (hn : n ≠ 0) (hm : m ≠ 0) : v.ownBlock ≠ u.ownBlock := by
  obtain ⟨ad, cap, rfl, h⟩ := h
  obtain ⟨ad', cap', rfl, h'⟩ := h'
  obtain ⟨g, rfl, -, N, f, ⟨c1, fr1, k1, -⟩, -, -⟩ := h.resolve_left hn
  obtain ⟨g', rfl, -, N', f', ⟨c2, fr2, k2, -⟩, -, -⟩ := h'.resolve_left hm
  intro e
  have e' : g = g' := Option.some.inj e
  subst e'
  rw [k1] at k2
  cases k2
  exact ht rfl

set_option maxRecDepth 100000 in
theorem eqFault_callsR (k n : Int) (w : World) :
    Calls Tryz.prog 7 #[.agg #[.int .i64 k, .int .i64 n], .agg #[.int .i64 k, .int .i64 n]] w fun e w' => e = .returned (.bool true) ∧ Below w.heap.size w w' := by
  go_enter Tryz.func7, Tryz.ntmps7
  go_wp2
  go_ret
  exact ⟨rfl, by repeat (first | exact Below.refl _ _ | refine Below.alloc ?_ (by first | (simp; done) | (simp; omega)) _)⟩

set_option maxRecDepth 100000 in
theorem eqEffS_noneR (ad ad' : Option Addr) (cap cap' : Nat) (w : World) :
    Calls Tryz.prog 20 #[.slice ad 0 cap, .slice ad' 0 cap'] w fun e w' => e = .returned (.bool true) ∧ Below w.heap.size w w' := by
  go_enter Tryz.func20, Tryz.ntmps20
  go_wp2
  refine wp_loop_rounds 1 ?_
  rw [rounds_succ]
  go_wp2
  go_ret
  exact ⟨rfl, Below.refl _ _⟩

set_option maxRecDepth 100000 in
theorem eqNodeS_noneR (ad ad' : Option Addr) (cap cap' : Nat) (w : World) :
    Calls Tryz.prog 21 #[.slice ad 0 cap, .slice ad' 0 cap'] w fun e w' => e = .returned (.bool true) ∧ Below w.heap.size w w' := by
  go_enter Tryz.func21, Tryz.ntmps21
  go_wp2
  refine wp_loop_rounds 1 ?_
  rw [rounds_succ]
  go_wp2
  go_ret
  exact ⟨rfl, Below.refl _ _⟩

theorem eqEffS_sl {v u : Value} {es : List Ef} (w : World) (hm : es.length ≤ 1048576) (h : EffSlice w v es) (h' : EffSlice w u es) :
    Calls Tryz.prog 20 #[v, u] w fun e w' => e = .returned (.bool true) ∧ Below w.heap.size w w' := by
  obtain ⟨ad, cap, rfl, h⟩ := h
  obtain ⟨ad', cap', rfl, h'⟩ := h'
  by_cases h0 : es = []
  · subst h0
    exact eqEffS_noneR ad ad' cap cap' w
  · obtain ⟨b, off, rfl, hb, hn⟩ := h.resolve_left h0
    obtain ⟨b', off', rfl, hb', hn'⟩ := h'.resolve_left h0
    exact eqEffS_calls b off b' off' es.length cap cap' es w hb hb' hn hn' (Nat.le_refl _) hm

theorem eqNodeS_sl {v u : Value} {ns : List Nd} (w : World) (hm : ns.length ≤ 1048576) (h : NodeSlice w v ns) (h' : NodeSlice w u ns) :
    Calls Tryz.prog 21 #[v, u] w fun e w' => e = .returned (.bool true) ∧ Below w.heap.size w w' := by
  obtain ⟨ad, cap, rfl, h⟩ := h
  obtain ⟨ad', cap', rfl, h'⟩ := h'
  by_cases h0 : ns = []
  · subst h0
    exact eqNodeS_noneR ad ad' cap cap' w
  · obtain ⟨b, off, rfl, hb, hn⟩ := h.resolve_left h0
    obtain ⟨b', off', rfl, hb', hn'⟩ := h'.resolve_left h0
    exact eqNodeS_calls b off b' off' ns.length cap cap' ns w hb hb' hn hn' (Nat.le_refl _) hm

set_option maxHeartbeats 1000000 in
set_option maxRecDepth 100000 in
theorem eqProg_sl {v0 v1 u0 u1 : Value} {es : List Ef} {ns : List Nd} (w : World) (m0 : es.length ≤ 1048576) (m1 : ns.length ≤ 1048576) (h0 : EffSlice w v0 es) (h1 : NodeSlice w v1 ns) (k0 : EffSlice w u0 es) (k1 : NodeSlice w u1 ns) :
    Calls Tryz.prog 6 #[.agg #[v0, v1], .agg #[u0, u1]] w fun e w' => e = .returned (.bool true) ∧ Below w.heap.size w w' := by
  obtain ⟨HB, HA1, HA2, -⟩ := two_blocks w (.cells #[v0, v1] 25) (.cells #[u0, u1] 25)
  have HX := hid (eqEffS_sl ((w.alloc (.cells #[v0, v1] 25)).alloc (.cells #[u0, u1] 25)) m0 (h0.below HB) (k0.below HB))
  have HN := hid (fun X (hb : Below w.heap.size w X) => eqNodeS_sl X m1 (h1.below hb) (k1.below hb))
  have HBh := hid HB
  obtain ⟨a0, c0, rfl, -⟩ := h0
  obtain ⟨a1, c1, rfl, -⟩ := h1
  obtain ⟨a2, c2, rfl, -⟩ := k0
  obtain ⟨a3, c3, rfl, -⟩ := k1
  have HA := hid (And.intro HA1 HA2)
  clear HB HA1 HA2 m0 m1
  go_enter Tryz.func6, Tryz.ntmps6
  go_wp2_with fail
  refine HX.out.mono ?_
  rintro e w2 ⟨rfl, hb⟩
  have hb3 := HBh.out.trans (hb.mono HBh.out.size)
  have g1 := (hb.block w.heap.size (by simp; omega)).trans HA.out.1
  have g2 := (hb.block (w.heap.size + 1) (by simp)).trans HA.out.2
  have q1 := cell_of_heap g1 1
  have q2 := cell_of_heap g2 1
  simp at q1 q2
  have HY := hid (HN.out w2 hb3)
  have HB3 := hid hb3
  clear HX HBh hb HA g1 g2 hb3 HN
  go_wp2_with fail
  refine HY.out.mono ?_
  rintro e w3 ⟨rfl, hb4⟩
  have hb5 := HB3.out.trans (hb4.mono HB3.out.size)
  clear HY hb4 q1 q2
  go_wp2_with fail
  go_ret
  exact ⟨rfl, hb5⟩

/-- The rows of an answer are what may change. -/
def Mine (v0 v1 : Value) (n m q : Nat) : Prop := (n ≠ 0 ∧ v0.ownBlock = some q) ∨ (m ≠ 0 ∧ v1.ownBlock = some q)

set_option maxHeartbeats 1000000 in
set_option maxRecDepth 100000 in
theorem markProg_sl {v0 v1 : Value} {B n m : Nat} {F G : Nat → Value} (w : World) (hn : n ≤ 1000000) (hm : m ≤ 1000000) (h0 : SliceR 59 3 B w v0 n F) (h1 : SliceR 64 6 B w v1 m G) :
    Calls Tryz.prog 8 #[.agg #[v0, v1], .int .i64 1] w fun e w' => e = .returned (.int .i64 (1 + 3 * (n : Int) + 6 * (m : Int))) ∧ SliceR 59 3 B w' v0 n efMarks ∧ SliceR 64 6 B w' v1 m (ndMarksS (1 + 3 * n)) ∧ Chg (Mine v0 v1 n m) w w' := by
  have hb1 := (Below.refl w.heap.size w).alloc (Nat.le_refl _) (.cells #[v0, v1] 25)
  have hA := (MapKept.heap_alloc w (.cells #[v0, v1] 25)).1
  obtain ⟨Y, hY⟩ : ∃ Y, w.alloc (.cells #[v0, v1] 25) = Y := ⟨_, rfl⟩
  rw [hY] at hb1 hA
  have HI0 := hid h0.insideN
  have HI1 := hid h1.insideN
  have HAp := hid (fun a b => rows_apart (by decide) h0 h1 a b)
  have h0k := h0.below hb1
  have H1 := hid (h1.below hb1)
  have HE := hid (markEffS_anyM Y (by omega) h0k)
  have HZ := hid (And.intro hn hm)
  obtain ⟨a0, c0, rfl, -⟩ := h0
  obtain ⟨a1, c1, rfl, -⟩ := h1
  have HY := hid hY
  have HA := hid hA
  have HB := hid hb1
  clear hY hA hb1 h0k hn hm
  go_enter Tryz.func8, Tryz.ntmps8
  go_wp2_with fail
  rw [HY.out]
  refine HE.out.mono ?_
  rintro e w2 ⟨rfl, hr, ht⟩
  have hc := Chg.of_turned ht (P := Mine (.slice a0 n c0) (.slice a1 m c1) n m) (fun q h0 e => Or.inl ⟨h0, e⟩)
  have HC2 := hid ((Chg.of_below HB.out).trans hc)
  have hA2 := (hc.block w.heap.size (heap_lt HA.out) (fun e => by
    rcases e with ⟨e0, e1⟩ | ⟨e0, e1⟩
    · exact Nat.lt_irrefl _ (HI0.out e0 _ e1)
    · exact Nat.lt_irrefl _ (HI1.out e0 _ e1))).trans HA.out
  have q1 := cell_of_heap hA2 1
  simp at q1
  have HR2 := hid hr
  have HN := hid (H1.out.turned ht (fun a b => (HAp.out b a).symm))
  have HM := hid (markNodeS_anyM (1 + 3 * (n : Int)) (show _ = ((1 + 3 * n : Nat) : Int) by omega) (by have := HZ.out; omega) w2 (by have := HZ.out; omega) HN.out)
  clear hr ht hc hA2 HE HY HA HB H1 HI0 HI1 HN
  obtain ⟨s1, hs1⟩ : ∃ s, 1 + 3 * (n : Int) = s := ⟨_, rfl⟩
  rw [hs1] at HM ⊢
  have HS1 := hid hs1
  clear hs1
  go_wp2_with fail
  refine HM.out.mono ?_
  rintro e w3 ⟨rfl, hr, ht⟩
  have hc := Chg.of_turned ht (P := Mine (.slice a0 n c0) (.slice a1 m c1) n m) (fun q h0 e => Or.inr ⟨h0, e⟩)
  have HC3 := hid (HC2.out.trans hc)
  have HR3 := hid (HR2.out.turned ht (fun a b => HAp.out a b))
  have HR4 := hid hr
  clear hr ht hc HM HC2 HR2 q1
  obtain ⟨s2, hs2⟩ : ∃ s, s1 + 6 * (m : Int) = s := ⟨_, rfl⟩
  rw [hs2]
  have HS2 := hid hs2
  clear hs2
  go_wp2_with fail
  go_ret
  exact ⟨by rw [HS1.out, HS2.out]; rfl, HR3.out, HR4.out, HC3.out⟩

set_option maxHeartbeats 1000000 in
set_option maxRecDepth 100000 in
theorem heldProg_sl {v0 v1 : Value} {B n m : Nat} (w : World) (hn : n ≤ 1000000) (hm : m ≤ 1000000) (h0 : SliceR 59 3 B w v0 n efMarks) (h1 : SliceR 64 6 B w v1 m (ndMarksS (1 + 3 * n))) :
    Calls Tryz.prog 9 #[.agg #[v0, v1], .int .i64 1] w fun e w' => e = .returned (.int .i64 (1 + 3 * (n : Int) + 6 * (m : Int))) ∧ Below w.heap.size w w' := by
  have hb1 := (Below.refl w.heap.size w).alloc (Nat.le_refl _) (.cells #[v0, v1] 25)
  have hA := (MapKept.heap_alloc w (.cells #[v0, v1] 25)).1
  obtain ⟨Y, hY⟩ : ∃ Y, w.alloc (.cells #[v0, v1] 25) = Y := ⟨_, rfl⟩
  rw [hY] at hb1 hA
  have HE := hid (heldEffS_anyM Y (by omega) (h0.below hb1))
  have HM := hid (fun X (hX : Below w.heap.size w X) => heldNodeS_anyM (1 + 3 * (n : Int)) (show _ = ((1 + 3 * n : Nat) : Int) by omega) (by omega) X (by omega) (h1.below hX))
  obtain ⟨a0, c0, rfl, -⟩ := h0
  obtain ⟨a1, c1, rfl, -⟩ := h1
  have HY := hid hY
  have HA := hid hA
  have HB := hid hb1
  clear hY hA hb1 hn hm
  go_enter Tryz.func9, Tryz.ntmps9
  go_wp2_with fail
  rw [HY.out]
  refine HE.out.mono ?_
  rintro e w2 ⟨rfl, hb2⟩
  have hA2 := (hb2.block w.heap.size (heap_lt HA.out)).trans HA.out
  have q1 := cell_of_heap hA2 1
  simp at q1
  have HB2 := hid (HB.out.trans (hb2.mono HB.out.size))
  have HM2 := hid (HM.out w2 HB2.out)
  have hp : ¬ (1 + 3 * (n : Int) < 0) := by omega
  have hp2 : ¬ (1 + 3 * (n : Int) + 6 * (m : Int) < 0) := by omega
  clear hb2 hA2 HE HY HA HB HM
  obtain ⟨s1, hs1⟩ : ∃ s, 1 + 3 * (n : Int) = s := ⟨_, rfl⟩
  rw [hs1] at HM2 hp hp2 ⊢
  have HS1 := hid hs1
  clear hs1
  go_wp2_with fail
  refine HM2.out.mono ?_
  rintro e w3 ⟨rfl, hb3⟩
  have HB3 := hid (HB2.out.trans (hb3.mono HB2.out.size))
  clear hb3 HB2 HM2 q1 hp
  obtain ⟨s2, hs2⟩ : ∃ s, s1 + 6 * (m : Int) = s := ⟨_, rfl⟩
  rw [hs2] at hp2 ⊢
  have HS2 := hid hs2
  clear hs2
  go_wp2_with fail
  go_ret
  exact ⟨by rw [HS1.out, HS2.out]; rfl, HB3.out⟩
end Go.Proofs.YtkdipppeljpgmaaGreatDoor
