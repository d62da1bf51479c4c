/- Words of a text as plain functions of its bytes: runs of digits and letters, signs, the word at a place. -/
import Derived.Test.YtnhofdngmbnlkaaKeyWalks
import Derived.Test.YtnhofdngmbnlkaaCharWalks
import Derived.Test.YtnhofdngmbnlkaaKept
import Derived.Deep.QuietTactic
import Derived.BigQuiet
import Derived.BigRegion
import Derived.Test.YtnhofdngmbnlkaaShelf
import Derived.WalkMore
import Derived.Deep.OwnRows
import Derived.Deep.RegionWith
import Derived.Laws.IdiomStrings
import Derived.Test.YtnhofdngmbnlkaaStagesG
import Derived.Test.YtnhofdngmbnlkaaSpecDeep
import Derived.Test.YtnhofdngmbnlkaaOwnRow
import Derived.Deep.CutRange
import Derived.Deep.CutBlock
import Derived.Test.YtnhofdngmbnlkaaRows
import Derived.Test.YtnhofdngmbnlkaaGrpMW0
import Derived.WalkKit
import Derived.ProofKit
import Derived.OwnWalk
import Derived.Deep.RegionHeld
import Derived.Test.YtnhofdngmbnlkaaGrpMW3
import Derived.OpenShut
namespace Go.Proofs.Ytnhofdngmbnlkaa
open Go.RowKit

def okb (l : Bool) (x : Int) : Bool := digitZ x || (l && letterZ x)

/-- From p to e it is a run, as long as can be. -/
def IsRun (s : ByteArray) (l : Bool) (p e : Nat) : Prop :=
  p ≤ e ∧ e ≤ s.size ∧ (∀ j, p ≤ j → j < e → okb l (bz s j) = true) ∧ (e < s.size → okb l (bz s e) = false)

theorem IsRun.unique {s : ByteArray} {l : Bool} {p e e' : Nat} (h : IsRun s l p e) (h' : IsRun s l p e') : e = e' := by
  obtain ⟨h1, h2, h3, h4⟩ := h
  obtain ⟨g1, g2, g3, g4⟩ := h'
  rcases Nat.lt_trichotomy e e' with hlt | heq | hlt
  · have a := g3 e h1 hlt
    have b := h4 (by omega)
    rw [a] at b
    cases b
  · exact heq
  · have a := h3 e' g1 hlt
    have b := g4 (by omega)
    rw [a] at b
    cases b

def runGo (s : ByteArray) (l : Bool) : Nat → Nat → Nat
  | 0, p => p
  | f + 1, p => if p < s.size ∧ okb l (bz s p) = true then runGo s l f (p + 1) else p

def runTo (s : ByteArray) (l : Bool) (p : Nat) : Nat := runGo s l (s.size - p) p

theorem isRun_go (s : ByteArray) (l : Bool) : ∀ (f p : Nat), p + f = s.size → IsRun s l p (runGo s l f p)
  | 0, p, h => ⟨Nat.le_refl _, by simp [runGo]; omega, fun j h1 h2 => by simp [runGo] at h2; omega, fun h' => by simp [runGo] at h'; omega⟩
  | f + 1, p, h => by
    unfold runGo
    split
    · rename_i hc
      obtain ⟨h1, h2, h3, h4⟩ := isRun_go s l f (p + 1) (by omega)
      refine ⟨by omega, h2, fun j hj1 hj2 => ?_, h4⟩
      by_cases e : j = p
      · rw [e]
        exact hc.2
      · exact h3 j (by omega) hj2
    · rename_i hc
      refine ⟨Nat.le_refl _, by omega, fun j h1 h2 => by omega, fun h' => ?_⟩
      cases hk : okb l (bz s p) with
      | false => rfl
      | true => exact absurd ⟨h', hk⟩ hc

theorem isRun_runTo (s : ByteArray) (l : Bool) {p : Nat} (h : p ≤ s.size) : IsRun s l p (runTo s l p) := isRun_go s l _ p (by omega)

theorem IsRun.eq {s : ByteArray} {l : Bool} {p e : Nat} (h : IsRun s l p e) : e = runTo s l p := h.unique (isRun_runTo s l (Nat.le_trans h.1 h.2.1))

def signBytes : List (List UInt8) := [[45, 62], [61, 62], [58, 58], [40], [41], [44], [43], [45], [42], [61], [60], [124], [58], [59]]

def signStrs : List ByteArray := signBytes.map fun l => ⟨l.toArray⟩

/-- Does this text begin so? -/
def signHit (t g : ByteArray) : Bool := decide (g.size ≤ t.size) && ((t.extract 0 g.size).toList == g.toList)

/-- The sign with which a text begins, empty if there is none. -/
def signOf (t : ByteArray) : ByteArray := (signStrs.find? (signHit t)).getD ByteArray.empty

/-- A word: its kind, its bytes, its place. -/
structure Wd where
  kind : Int
  text : ByteArray
  at_ : Nat

instance : Inhabited Wd := ⟨⟨0, ByteArray.empty, 0⟩⟩

/-- The word at a place and where it ends, or what is wrong. -/
def wordAt (s : ByteArray) (p : Nat) : Except Int (Wd × Nat) :=
  if digitZ (bz s p) = true then
    let e := runTo s false p
    if 9 < e - p ∨ (bz s p = 48 ∧ 1 < e - p) then .error 3 else .ok (⟨1, s.extract p e, p⟩, e)
  else if letterZ (bz s p) = true then
    let e := runTo s true p
    if 8 < e - p then .error 4 else .ok (⟨if isKey (s.extract p e) then 3 else 2, s.extract p e, p⟩, e)
  else
    let g := signOf (s.extract p s.size)
    if g.size = 0 then .error 2 else .ok (⟨4, g, p⟩, p + g.size)

/-- What a word at a place is told by. -/
def wordVal : Except Int (Wd × Nat) → Value
  | .error c => .tuple #[.agg #[.int .i64 0, .string ⟨#[]⟩, .int .i64 0], .int .i64 0, .int .i64 c]
  | .ok (d, e) => .tuple #[.agg #[.int .i64 d.kind, .string d.text, .int .i64 d.at_], .int .i64 e, .int .i64 0]

theorem signOf_hit {t g : ByteArray} {k : Nat} (hk : k < 14) (hg : signStrs.getD k ByteArray.empty = g) (hh : signHit t g = true) (hno : ∀ j, j < k → signHit t (signStrs.getD j ByteArray.empty) = false) : signOf t = g := by
  have hl : signStrs.length = 14 := rfl
  have e : ∀ j, j < 14 → signStrs[j]? = some (signStrs.getD j ByteArray.empty) := fun j hj => by simp [List.getD, List.getElem?_eq_getElem (show j < signStrs.length by omega)]
  unfold signOf
  have : signStrs.find? (signHit t) = some g := by
    rw [List.find?_eq_some_iff_getElem]
    refine ⟨hh, k, by omega, ?_, fun j hj => ?_⟩
    · have := e k hk
      rw [List.getElem?_eq_getElem (show k < signStrs.length by omega)] at this
      rw [hg] at this
      exact Option.some.inj this
    · have h1 := e j (by omega)
      rw [List.getElem?_eq_getElem (show j < signStrs.length by omega)] at h1
      rw [Option.some.inj h1, hno j hj]
      rfl
  rw [this]
  rfl

theorem signOf_none {t : ByteArray} (hno : ∀ j, j < 14 → signHit t (signStrs.getD j ByteArray.empty) = false) : signOf t = ByteArray.empty := by
  unfold signOf
  have : signStrs.find? (signHit t) = none := by
    rw [List.find?_eq_none]
    intro x hx
    obtain ⟨j, hj, rfl⟩ := List.getElem_of_mem hx
    have hl : signStrs.length = 14 := rfl
    have h1 := hno j (by omega)
    have e : signStrs.getD j ByteArray.empty = signStrs[j] := by simp [List.getD, List.getElem?_eq_getElem hj]
    rw [e] at h1
    simp [h1]
  rw [this]
  rfl

theorem signOf_size (t : ByteArray) : (signOf t).size ≤ 2 := by
  unfold signOf
  cases h : signStrs.find? (signHit t) with
  | none => decide
  | some x =>
    have hx := List.mem_of_find?_eq_some h
    have : ∀ x ∈ signStrs, x.size ≤ 2 := by decide
    exact this x hx

theorem wordAt_end {s : ByteArray} {p : Nat} {d : Wd} {e : Nat} (hp : p < s.size) (h : wordAt s p = .ok (d, e)) : p < e ∧ e ≤ p + 9 := by
  unfold wordAt at h
  by_cases hd : digitZ (bz s p) = true
  · obtain ⟨h1, h2, h3, h4⟩ := isRun_runTo s false (p := p) (by omega)
    rw [if_pos hd] at h
    dsimp only at h
    split at h
    · cases h
    · cases h
      have : p ≠ runTo s false p := fun e => by
        have := h4 (by omega)
        rw [← e, okb, hd] at this
        simp at this
      omega
  · rw [if_neg hd] at h
    by_cases hL : letterZ (bz s p) = true
    · obtain ⟨h1, h2, h3, h4⟩ := isRun_runTo s true (p := p) (by omega)
      rw [if_pos hL] at h
      dsimp only at h
      split at h
      · cases h
      · cases h
        have : p ≠ runTo s true p := fun e => by
          have := h4 (by omega)
          rw [← e, okb, hL] at this
          simp at this
        omega
    · rw [if_neg hL] at h
      dsimp only at h
      have := signOf_size (s.extract p s.size)
      split at h
      · cases h
      · cases h
        omega

/-- May stand between words. -/
def blankZ (x : Int) : Bool := x == 32 || x == 10

/-- The words from a place on, behind those that are there; or what is wrong, and where. -/
def lexGo (s : ByteArray) : Nat → Nat → List Wd → List Wd × Int × Nat
  | 0, _, ws => (ws, 0, 0)
  | f + 1, p, ws =>
    if p < s.size then
      if blankZ (bz s p) = true then lexGo s f (p + 1) ws
      else match wordAt s p with
        | .error c => ([], c, p)
        | .ok (d, e) => lexGo s f e (ws ++ [d])
    else (ws, 0, 0)

def lexAll (s : ByteArray) : List Wd × Int × Nat := if 1500 < s.size then ([], 1, 0) else lexGo s s.size 0 []

theorem lexGo_end {s : ByteArray} {p : Nat} (h : ¬ p < s.size) : ∀ (f : Nat) (ws : List Wd), lexGo s f p ws = (ws, 0, 0)
  | 0, _ => rfl
  | f + 1, ws => by rw [lexGo, if_neg h]

theorem lexGo_blank {s : ByteArray} {f p : Nat} {ws : List Wd} (h : p < s.size) (hb : blankZ (bz s p) = true) : lexGo s (f + 1) p ws = lexGo s f (p + 1) ws := by
  rw [lexGo, if_pos h, if_pos hb]

theorem lexGo_bad {s : ByteArray} {f p : Nat} {ws : List Wd} {c : Int} (h : p < s.size) (hb : ¬ blankZ (bz s p) = true) (hw : wordAt s p = .error c) : lexGo s (f + 1) p ws = ([], c, p) := by
  rw [lexGo, if_pos h, if_neg hb, hw]

theorem lexGo_word {s : ByteArray} {f p e : Nat} {ws : List Wd} {d : Wd} (h : p < s.size) (hb : ¬ blankZ (bz s p) = true) (hw : wordAt s p = .ok (d, e)) : lexGo s (f + 1) p ws = lexGo s f e (ws ++ [d]) := by
  rw [lexGo, if_pos h, if_neg hb, hw]

/-- Words as their cells, one behind the other. -/
def flatW : List Wd → List Value
  | [] => []
  | d :: r => .int .i64 d.kind :: .string d.text :: .int .i64 d.at_ :: flatW r

theorem flatW_append : ∀ (a b : List Wd), flatW (a ++ b) = flatW a ++ flatW b
  | [], _ => rfl
  | d :: r, b => by simp [flatW, flatW_append r b]

theorem flatW_length : ∀ (a : List Wd), (flatW a).length = a.length * 3
  | [] => rfl
  | d :: r => by simp [flatW, flatW_length r]; omega

end Go.Proofs.Ytnhofdngmbnlkaa

/- The specification's word at a place is the plain one. -/
namespace Go.Proofs.Ytnhofdngmbnlkaa
open Go.RowKit

set_option maxRecDepth 100000 in
theorem run_calls (s : ByteArray) (p : Nat) (l : Bool) (hp : p ≤ s.size) (hs : s.size ≤ 1500) (w : World) :
    Calls Try.prog 22 #[.string s, .int .i64 p, .bool l] w fun e w' => e = .returned (.int .i64 (runTo s l p)) ∧ w = w' := by
  obtain ⟨R, hR⟩ : ∃ R, runTo s l p = R := ⟨_, rfl⟩
  have HR : Hid (runTo s l p = R) := hR
  rw [hR]
  clear hR
  go_enter Try.func22, Try.ntmps22
  go_wp2_with fail
  go_loop [1] (fun a => ∃ k : Nat, a = .int .i64 k ∧ p ≤ k ∧ k ≤ s.size ∧ Hid (∀ j, p ≤ j → j < k → okb l (bz s j) = true)) (fun a => s.size - (intOf a).toNat)
  case atStart => exact ⟨p, rfl, Nat.le_refl _, hp, fun j h1 h2 => by omega⟩
  case round =>
    obtain ⟨k, rfl, hpk, hks, HA⟩ := hrel
    have fin : ¬ (k < s.size ∧ okb l (bz s k) = true) → Hid (R = k) := fun h => by
      rw [← HR.out]
      refine (IsRun.eq ⟨hpk, hks, HA.out, fun hlt => ?_⟩).symm
      cases hk : okb l (bz s k) with
      | false => rfl
      | true => exact absurd ⟨hlt, hk⟩ h
    have step : okb l (bz s k) = true → Hid (∀ j, p ≤ j → j < k + 1 → okb l (bz s j) = true) := fun h j h1 h2 => by
      by_cases e : j = k
      · rw [e]
        exact h
      · exact HA.out j h1 (by omega)
    clear HR HA
    by_cases hlt : k < s.size
    · have hb := bz_at s hlt
      cases hd : digitZ ((s[k]'hlt).toNat : Int) with
      | true =>
        have HS := step (by rw [hb, okb, hd]; rfl)
        clear fin step hb
        go_wp2_with (first | (go_at_call 21; refine (digit18 _ _).mono ?_; rintro e w2 ⟨rfl, rfl⟩) | (go_at_call 23; refine (letter17 _ _).mono ?_; rintro e w2 ⟨rfl, rfl⟩))
        exact ⟨⟨k + 1, by simp, by omega, by omega, HS⟩, by simp [intOf]; omega⟩
      | false =>
        cases l with
        | false =>
          have HF := fin (fun h => by rw [hb, okb, hd] at h; simp at h)
          clear fin step hb
          go_wp2_with (first | (go_at_call 21; refine (digit18 _ _).mono ?_; rintro e w2 ⟨rfl, rfl⟩) | (go_at_call 23; refine (letter17 _ _).mono ?_; rintro e w2 ⟨rfl, rfl⟩))
          go_ret
          exact ⟨by rw [HF.out]; rfl, rfl⟩
        | true =>
          cases hL : letterZ ((s[k]'hlt).toNat : Int) with
          | true =>
            have HS := step (by rw [hb, okb, hd, hL]; rfl)
            clear fin step hb
            go_wp2_with (first | (go_at_call 21; refine (digit18 _ _).mono ?_; rintro e w2 ⟨rfl, rfl⟩) | (go_at_call 23; refine (letter17 _ _).mono ?_; rintro e w2 ⟨rfl, rfl⟩))
            exact ⟨⟨k + 1, by simp, by omega, by omega, HS⟩, by simp [intOf]; omega⟩
          | false =>
            have HF := fin (fun h => by rw [hb, okb, hd, hL] at h; simp at h)
            clear fin step hb
            go_wp2_with (first | (go_at_call 21; refine (digit18 _ _).mono ?_; rintro e w2 ⟨rfl, rfl⟩) | (go_at_call 23; refine (letter17 _ _).mono ?_; rintro e w2 ⟨rfl, rfl⟩))
            go_ret
            exact ⟨by rw [HF.out]; rfl, rfl⟩
    · have HF := fin (fun h => hlt h.1)
      clear fin step
      go_wp2_with fail
      go_ret
      exact ⟨by rw [HF.out]; rfl, rfl⟩

set_option maxRecDepth 100000 in
theorem signs_calls (w : World) :
    Calls Try.prog 39 #[] w fun e w' => e = .returned (.slice (some ⟨w.heap.size, 0, none⟩) 14 14) ∧ w' = w.alloc (.cells (signStrs.map Value.string).toArray 9) := by
  go_enter Try.func39, Try.ntmps39
  go_wp2
  go_ret
  exact ⟨rfl, rfl⟩

theorem signCells (w : World) (j : Nat) (hj : j < signStrs.length) : (w.alloc (.cells (signStrs.map Value.string).toArray 9)).cell? ⟨w.heap.size, j, none⟩ = some (.string (signStrs.getD j ByteArray.empty)) := by
  have h1 : (w.alloc (.cells (signStrs.map Value.string).toArray 9)).heap[w.heap.size]? = some (.cells (signStrs.map Value.string).toArray 9) := (MapKept.heap_alloc w _).1
  have e : signStrs.getD j ByteArray.empty = signStrs[j] := by simp [List.getD, List.getElem?_eq_getElem hj]
  rw [e]
  unfold World.cell?
  dsimp only
  rw [h1]
  simp [hj]

set_option maxRecDepth 100000 in
theorem sign_calls (s : ByteArray) (w : World) :
    Calls Try.prog 25 #[.string s] w fun e w' => e = .returned (.string (signOf s)) ∧ Below w.heap.size w w' := by
  go_enter Try.func25, Try.ntmps25
  go_wp2_with fail
  refine (signs_calls _).mono ?_
  rintro e w1 ⟨rfl, hw1⟩
  have hcell := signCells w
  rw [← hw1] at hcell
  have hb1 : Below w.heap.size w w1 := by rw [hw1]; exact (Below.refl _ _).alloc (Nat.le_refl _) _
  clear hw1
  go_wp2_with fail
  go_loopw [4] (fun i wr => ∃ k d : Nat, i = .int .i64 k ∧ k ≤ 14 ∧ wr = w1.drewN d ∧ Hid (∀ j, j < k → signHit s (signStrs.getD j ByteArray.empty) = false)) (fun i _ => 14 - (intOf i).toNat)
  case atStart => exact ⟨0, 0, rfl, by omega, rfl, fun j hj => by omega⟩
  case round =>
    obtain ⟨k, d, rfl, hk, rfl, HA⟩ := hrel
    by_cases hlt : k < 14
    · have c := hcell k hlt
      obtain ⟨g, hg⟩ : ∃ g, signStrs.getD k ByteArray.empty = g := ⟨_, rfl⟩
      have HG : Hid (signStrs.getD k ByteArray.empty = g) := hg
      rw [hg] at c
      clear hcell hg
      have hi : (k : Int) < 14 := by omega
      have step : signHit s g = false → Hid (∀ j, j < k + 1 → signHit s (signStrs.getD j ByteArray.empty) = false) := fun h j hj => by
        by_cases e : j = k
        · rw [e, HG.out]
          exact h
        · exact HA.out j (by omega)
      have fin : signHit s g = true → Hid (signOf s = g) := fun h => signOf_hit hlt HG.out h HA.out
      clear HA HG
      by_cases hge : g.size ≤ s.size
      · cases hm : ((s.extract 0 g.size).toList == g.toList) with
        | true =>
          have HF := fin (by simp only [signHit, hm, hge, decide_true, Bool.and_self])
          clear fin step
          go_wp2_with fail
          go_quiet (fail)
          go_wp2_with fail
          go_ret
          exact ⟨by rw [HF.out]; rfl, below_drewN hb1 _⟩
        | false =>
          have HS := step (by simp only [signHit, hm, Bool.and_false])
          clear fin step
          go_wp2_with fail
          go_quiet (fail)
          go_wp2_with fail
          exact ⟨⟨k + 1, _, by simp, by omega, rfl, HS⟩, by simp [intOf]; omega⟩
      · have HS := step (by simp only [signHit, hge, decide_false, Bool.false_and])
        clear fin step
        have hge' : decide (g.size ≤ s.size) = false := decide_eq_false hge
        go_wp2_with fail
        go_quiet (fail)
        go_wp2_with fail
        exact ⟨⟨k + 1, _, by simp, by omega, rfl, HS⟩, by simp [intOf]; omega⟩
    · have hk14 : k = 14 := by omega
      have HF : Hid (signOf s = ByteArray.empty) := signOf_none (hk14 ▸ HA.out)
      clear HA
      go_wp2_with fail
      go_ret
      exact ⟨by rw [HF.out]; rfl, below_drewN hb1 _⟩

theorem extract_size {s : ByteArray} {a b : Nat} (h1 : a ≤ b) (h2 : b ≤ s.size) : (s.extract a b).size = b - a := by
  simp [ByteArray.size_extract]
  omega

set_option maxHeartbeats 1000000 in
set_option maxRecDepth 100000 in
theorem word_digit (s : ByteArray) (p : Nat) (hp : p < s.size) (hs : s.size ≤ 1500) (hd : digitZ ((s[p]'hp).toNat : Int) = true) (w : World) :
    Calls Try.prog 10 #[.string s, .int .i64 p] w fun e w' => e = .returned (wordVal (wordAt s p)) ∧ Below w.heap.size w w' := by
  have hb := bz_at s hp
  obtain ⟨V, hV⟩ : ∃ V, wordAt s p = V := ⟨_, rfl⟩
  rw [hV]
  unfold wordAt at hV
  rw [hb] at hV
  obtain ⟨h1, h2, h3, h4⟩ := isRun_runTo s false (p := p) (by omega)
  have hrun := run_calls s p false (by omega) hs
  obtain ⟨R, hR⟩ : ∃ R, runTo s false p = R := ⟨_, rfl⟩
  rw [hR] at h1 h2 h3 h4 hrun
  rw [if_pos hd, hR] at hV
  dsimp only at hV
  have HR : Hid (∀ w, _) := hrun
  clear hrun hR h3 h4 hb
  by_cases h9 : 9 < R - p
  · rw [if_pos (Or.inl h9)] at hV
    subst hV
    go_enter Try.func10, Try.ntmps10
    go_wp2_with (first | (go_at_call 21; refine (digit18 _ _).mono ?_; rintro e w2 ⟨rfl, rfl⟩) | (go_at_call 23; refine (letter17 _ _).mono ?_; rintro e w2 ⟨rfl, rfl⟩) | (go_at_call 22; refine (HR.out _).mono ?_; rintro e w2 ⟨rfl, rfl⟩))
    refine bodyPost_ret (v := wordVal (.error 3)) (by simp [wordVal, results, Try.results10, go_sem]) rfl ⟨rfl, ?_⟩
    repeat (first | exact Below.refl _ _ | refine Below.alloc ?_ (by first | (simp; done) | (simp; omega)) _)
  by_cases h48 : ((s[p]'hp).toNat : Int) = 48
  · have hb48 : (((s[p]'hp).toNat : Int) == 48) = true := by rw [h48]; rfl
    by_cases h1' : 1 < R - p
    · rw [if_pos (Or.inr ⟨h48, h1'⟩)] at hV
      subst hV
      clear h48
      go_enter Try.func10, Try.ntmps10
      go_wp2_with (first | (go_at_call 21; refine (digit18 _ _).mono ?_; rintro e w2 ⟨rfl, rfl⟩) | (go_at_call 23; refine (letter17 _ _).mono ?_; rintro e w2 ⟨rfl, rfl⟩) | (go_at_call 22; refine (HR.out _).mono ?_; rintro e w2 ⟨rfl, rfl⟩))
      refine bodyPost_ret (v := wordVal (.error 3)) (by simp [wordVal, results, Try.results10, go_sem]) rfl ⟨rfl, ?_⟩
      repeat (first | exact Below.refl _ _ | refine Below.alloc ?_ (by first | (simp; done) | (simp; omega)) _)
    · rw [if_neg (by omega)] at hV
      subst hV
      clear h48
      go_enter Try.func10, Try.ntmps10
      go_wp2_with (first | (go_at_call 21; refine (digit18 _ _).mono ?_; rintro e w2 ⟨rfl, rfl⟩) | (go_at_call 23; refine (letter17 _ _).mono ?_; rintro e w2 ⟨rfl, rfl⟩) | (go_at_call 22; refine (HR.out _).mono ?_; rintro e w2 ⟨rfl, rfl⟩))
      refine bodyPost_ret (v := wordVal (.ok (⟨1, s.extract p R, p⟩, R))) (by simp [wordVal, results, Try.results10, go_sem]) rfl ⟨rfl, ?_⟩
      repeat (first | exact Below.refl _ _ | refine Below.alloc ?_ (by first | (simp; done) | (simp; omega)) _)
  · have hb48 : (((s[p]'hp).toNat : Int) == 48) = false := by rw [beq_eq_false_iff_ne]; exact h48
    rw [if_neg (by omega)] at hV
    subst hV
    clear h48
    go_enter Try.func10, Try.ntmps10
    go_wp2_with (first | (go_at_call 21; refine (digit18 _ _).mono ?_; rintro e w2 ⟨rfl, rfl⟩) | (go_at_call 23; refine (letter17 _ _).mono ?_; rintro e w2 ⟨rfl, rfl⟩) | (go_at_call 22; refine (HR.out _).mono ?_; rintro e w2 ⟨rfl, rfl⟩))
    refine bodyPost_ret (v := wordVal (.ok (⟨1, s.extract p R, p⟩, R))) (by simp [wordVal, results, Try.results10, go_sem]) rfl ⟨rfl, ?_⟩
    repeat (first | exact Below.refl _ _ | refine Below.alloc ?_ (by first | (simp; done) | (simp; omega)) _)

/-- Two new blocks stand as they were made behind a call that turned nothing of what was there. -/
theorem two_kept {w w2 : World} {a b : Array Value} {t : TypeId} (h : Below ((w.alloc (.cells a t)).alloc (.cells b t)).heap.size ((w.alloc (.cells a t)).alloc (.cells b t)) w2) :
    w2.heap[w.heap.size]? = some (.cells a t) ∧ w2.heap[w.heap.size + 1]? = some (.cells b t) ∧ Below w.heap.size w w2 := by
  have e1 : (w.alloc (.cells a t)).heap[w.heap.size]? = some (.cells a t) := (MapKept.heap_alloc w _).1
  have s1 : (w.alloc (.cells a t)).heap.size = w.heap.size + 1 := by simp
  have e2 : ((w.alloc (.cells a t)).alloc (.cells b t)).heap[w.heap.size + 1]? = some (.cells b t) := by
    have := (MapKept.heap_alloc (w.alloc (.cells a t)) (.cells b t)).1
    rwa [s1] at this
  have s2 : ((w.alloc (.cells a t)).alloc (.cells b t)).heap.size = w.heap.size + 1 + 1 := by simp
  refine ⟨?_, ?_, ?_⟩
  · rw [h.block _ (by rw [s2]; omega), Below.heap_alloc _ _ _ (by rw [s1]; omega), e1]
  · rw [h.block _ (by rw [s2]; omega), e2]
  · exact ((Below.refl _ _).alloc (Nat.le_refl _) _ |>.alloc (by rw [s1]; omega) _).trans (h.mono (by rw [s2]; omega))

set_option maxHeartbeats 1000000 in
set_option maxRecDepth 100000 in
theorem word_letter (s : ByteArray) (p : Nat) (hp : p < s.size) (hs : s.size ≤ 1500) (hd : digitZ ((s[p]'hp).toNat : Int) = false) (hL : letterZ ((s[p]'hp).toNat : Int) = true) (w : World) :
    Calls Try.prog 10 #[.string s, .int .i64 p] w fun e w' => e = .returned (wordVal (wordAt s p)) ∧ Below w.heap.size w w' := by
  have hb := bz_at s hp
  obtain ⟨V, hV⟩ : ∃ V, wordAt s p = V := ⟨_, rfl⟩
  rw [hV]
  unfold wordAt at hV
  rw [hb, if_neg (by rw [hd]; simp)] at hV
  obtain ⟨h1, h2, h3, h4⟩ := isRun_runTo s true (p := p) (by omega)
  have hrun := run_calls s p true (by omega) hs
  obtain ⟨R, hR⟩ : ∃ R, runTo s true p = R := ⟨_, rfl⟩
  rw [hR] at h1 h2 h3 h4 hrun
  rw [if_pos hL, hR] at hV
  dsimp only at hV
  have HR : Hid (∀ w, _) := hrun
  clear hrun hR h3 h4 hb
  by_cases h8 : 8 < R - p
  · rw [if_pos h8] at hV
    subst hV
    go_enter Try.func10, Try.ntmps10
    go_wp2_with (first | (go_at_call 21; refine (digit18 _ _).mono ?_; rintro e w2 ⟨rfl, rfl⟩) | (go_at_call 23; refine (letter17 _ _).mono ?_; rintro e w2 ⟨rfl, rfl⟩) | (go_at_call 22; refine (HR.out _).mono ?_; rintro e w2 ⟨rfl, rfl⟩))
    refine bodyPost_ret (v := wordVal (.error 4)) (by simp [wordVal, results, Try.results10, go_sem]) rfl ⟨rfl, ?_⟩
    repeat (first | exact Below.refl _ _ | refine Below.alloc ?_ (by first | (simp; done) | (simp; omega)) _)
  rw [if_neg h8] at hV
  go_enter Try.func10, Try.ntmps10
  go_wp2_with (first | (go_at_call 21; refine (digit18 _ _).mono ?_; rintro e w2 ⟨rfl, rfl⟩) | (go_at_call 23; refine (letter17 _ _).mono ?_; rintro e w2 ⟨rfl, rfl⟩) | (go_at_call 22; refine (HR.out _).mono ?_; rintro e w2 ⟨rfl, rfl⟩))
  refine (specKey_calls _ _).mono ?_
  rintro e w2 ⟨rfl, hbk⟩
  obtain ⟨eA, eB, hbw⟩ := two_kept hbk
  have a0 := cell_of_heap eA 0
  have a1 := cell_of_heap eA 1
  have a2 := cell_of_heap eA 2
  have b0 := cell_of_heap eB 0
  have b1 := cell_of_heap eB 1
  have b2 := cell_of_heap eB 2
  have fA0 := frozen_of_heap eA 0
  have fA1 := frozen_of_heap eA 1
  have fA2 := frozen_of_heap eA 2
  have fB0 := frozen_of_heap eB 0
  simp at a0 a1 a2 b0 b1 b2
  clear hbk eA eB
  cases hK : isKey (s.extract p R) with
  | true =>
    rw [hK, if_pos rfl] at hV
    subst hV
    go_wp2_with fail
    refine bodyPost_ret (v := wordVal (.ok (⟨3, s.extract p R, p⟩, R))) (by simp [wordVal, results, Try.results10, go_sem, a0, a1, a2]) rfl ⟨rfl, ?_⟩
    repeat (first | exact hbw | refine Below.setCell ?_ (by simp) _)
  | false =>
    rw [hK, if_neg (by simp)] at hV
    subst hV
    go_wp2_with fail
    refine bodyPost_ret (v := wordVal (.ok (⟨2, s.extract p R, p⟩, R))) (by simp [wordVal, results, Try.results10, go_sem, a0, a1, a2]) rfl ⟨rfl, ?_⟩
    repeat (first | exact hbw | refine Below.setCell ?_ (by simp) _)

set_option maxHeartbeats 1000000 in
set_option maxRecDepth 100000 in
theorem word_sign (s : ByteArray) (p : Nat) (hp : p < s.size) (hd : digitZ ((s[p]'hp).toNat : Int) = false) (hL : letterZ ((s[p]'hp).toNat : Int) = false) (hs : s.size ≤ 1500) (w : World) :
    Calls Try.prog 10 #[.string s, .int .i64 p] w fun e w' => e = .returned (wordVal (wordAt s p)) ∧ Below w.heap.size w w' := by
  have hb := bz_at s hp
  obtain ⟨V, hV⟩ : ∃ V, wordAt s p = V := ⟨_, rfl⟩
  rw [hV]
  unfold wordAt at hV
  rw [hb, if_neg (by rw [hd]; simp), if_neg (by rw [hL]; simp)] at hV
  dsimp only at hV
  clear hb
  go_enter Try.func10, Try.ntmps10
  go_wp2_with (first | (go_at_call 21; refine (digit18 _ _).mono ?_; rintro e w2 ⟨rfl, rfl⟩) | (go_at_call 23; refine (letter17 _ _).mono ?_; rintro e w2 ⟨rfl, rfl⟩))
  refine (sign_calls _ _).mono ?_
  rintro e w2 ⟨rfl, hbk⟩
  obtain ⟨eA, eB, hbw⟩ := two_kept hbk
  have a0 := cell_of_heap eA 0
  have a1 := cell_of_heap eA 1
  have a2 := cell_of_heap eA 2
  have b0 := cell_of_heap eB 0
  have b1 := cell_of_heap eB 1
  have b2 := cell_of_heap eB 2
  have fA0 := frozen_of_heap eA 0
  have fA1 := frozen_of_heap eA 1
  have fA2 := frozen_of_heap eA 2
  have fB1 := frozen_of_heap eB 1
  simp at a0 a1 a2 b0 b1 b2
  clear hbk eA eB
  have hgs := signOf_size (s.extract p s.size)
  generalize signOf (s.extract p s.size) = g at *
  by_cases hg : g.size = 0
  · rw [if_pos hg] at hV
    subst hV
    have hge : (g.toList == []) = true := by
      rw [ByteArray.toList_eq]
      have : g.data.toList = [] := List.eq_nil_of_length_eq_zero (by rw [Array.length_toList]; exact hg)
      rw [this]
      rfl
    go_wp2_with fail
    refine bodyPost_ret (v := wordVal (.error 2)) (by simp [wordVal, results, Try.results10, go_sem, a0, a1, a2]) rfl ⟨rfl, ?_⟩
    repeat (first | exact hbw | refine Below.setCell ?_ (by simp) _)
  · rw [if_neg hg] at hV
    subst hV
    have hge : (g.toList == []) = false := by
      rw [ByteArray.toList_eq]
      cases hl : g.data.toList with
      | nil =>
        have h0 : g.data.toList.length = 0 := by rw [hl]; rfl
        rw [Array.length_toList] at h0
        exact absurd h0 hg
      | cons x r => rfl
    go_wp2_with fail
    have q0 : (w2.setCell ⟨w.heap.size + 1, 1, none⟩ (.string g)).cell? ⟨w.heap.size, 0, none⟩ = some (.int .i64 0) := by simp [go_sem, a0]
    have q1 : (w2.setCell ⟨w.heap.size + 1, 1, none⟩ (.string g)).cell? ⟨w.heap.size, 1, none⟩ = some (.string ⟨#[]⟩) := by simp [go_sem, a1]
    have q2 : (w2.setCell ⟨w.heap.size + 1, 1, none⟩ (.string g)).cell? ⟨w.heap.size, 2, none⟩ = some (.int .i64 0) := by simp [go_sem, a2]
    have r0 : (w2.setCell ⟨w.heap.size + 1, 1, none⟩ (.string g)).cell? ⟨w.heap.size + 1, 0, none⟩ = some (.int .i64 4) := by simp [go_sem, b0]
    have r1 : (w2.setCell ⟨w.heap.size + 1, 1, none⟩ (.string g)).cell? ⟨w.heap.size + 1, 1, none⟩ = some (.string g) := by simp [go_sem, b1]
    have r2 : (w2.setCell ⟨w.heap.size + 1, 1, none⟩ (.string g)).cell? ⟨w.heap.size + 1, 2, none⟩ = some (.int .i64 p) := by simp [go_sem, b2]
    have g0 : (w2.setCell ⟨w.heap.size + 1, 1, none⟩ (.string g)).frozen? ⟨w.heap.size, 0, none⟩ = false := by simp [go_sem, fA0]
    have g1 : (w2.setCell ⟨w.heap.size + 1, 1, none⟩ (.string g)).frozen? ⟨w.heap.size, 1, none⟩ = false := by simp [go_sem, fA1]
    have g2 : (w2.setCell ⟨w.heap.size + 1, 1, none⟩ (.string g)).frozen? ⟨w.heap.size, 2, none⟩ = false := by simp [go_sem, fA2]
    have hb2 := hbw.setCell (p := ⟨w.heap.size + 1, 1, none⟩) (by simp) (.string g)
    clear a0 a1 a2 b0 b1 b2 fA0 fA1 fA2 fB1 hbw
    generalize w2.setCell ⟨w.heap.size + 1, 1, none⟩ (.string g) = W at *
    go_region
    all_goals
      go_wp2_with fail
      refine bodyPost_ret (v := wordVal (.ok (⟨4, g, p⟩, p + g.size))) (by simp [wordVal, results, Try.results10, go_sem, q0, q1, q2]) rfl ⟨rfl, ?_⟩
      repeat (first | exact hb2 | refine Below.drew ?_ | refine Below.setCell ?_ (by simp) _)

theorem word_calls (s : ByteArray) (p : Nat) (hp : p < s.size) (hs : s.size ≤ 1500) (w : World) :
    Calls Try.prog 10 #[.string s, .int .i64 p] w fun e w' => e = .returned (wordVal (wordAt s p)) ∧ Below w.heap.size w w' := by
  cases hd : digitZ ((s[p]'hp).toNat : Int) with
  | true => exact word_digit s p hp hs hd w
  | false =>
    cases hL : letterZ ((s[p]'hp).toNat : Int) with
    | true => exact word_letter s p hp hs hd hL w
    | false => exact word_sign s p hp hd hL hs w

end Go.Proofs.Ytnhofdngmbnlkaa

/- The program's own word at the beginning of a rest: runs, copies, signs. -/
namespace Go.Proofs.Ytnhofdngmbnlkaa
open Go.RowKit

theorem okb_false (x : Int) : okb false x = digitZ x := by simp [okb]

set_option maxRecDepth 100000 in
theorem digit_runL (x : Int) (w : World) : Calls Try.prog 15 #[.int .i32 x] w fun e w' => e = .returned (.bool (okb false x)) ∧ w = w' := by
  rw [okb_false]
  exact digit20 x w

set_option maxRecDepth 100000 in
theorem part_run (x : Int) (w : World) : Calls Try.prog 32 #[.int .i32 x] w fun e w' => e = .returned (.bool (okb true x)) ∧ w = w' := by
  have e : okb true x = (letterZ x || digitZ x) := by simp [okb, Bool.or_comm]
  rw [e]
  cases hL : letterZ x with
  | true =>
    go_enter Try.func32, Try.ntmps32
    go_wp2_with (first | (go_at_call 17; refine (letter19 _ _).mono ?_; rintro e w2 ⟨rfl, rfl⟩) | (go_at_call 15; refine (digit20 _ _).mono ?_; rintro e w2 ⟨rfl, rfl⟩))
    go_ret
    exact ⟨rfl, rfl⟩
  | false =>
    go_enter Try.func32, Try.ntmps32
    go_wp2_with (first | (go_at_call 17; refine (letter19 _ _).mono ?_; rintro e w2 ⟨rfl, rfl⟩) | (go_at_call 15; refine (digit20 _ _).mono ?_; rintro e w2 ⟨rfl, rfl⟩))
    go_ret
    exact ⟨rfl, rfl⟩

set_option maxHeartbeats 1000000 in
set_option maxRecDepth 100000 in
theorem runDigits_calls (t : ByteArray) (hs : t.size ≤ 1500) (w : World) :
    Calls Try.prog 31 #[.string t, .func (.func 15) #[] #[]] w fun e w' => e = .returned (.int .i64 (runTo t false 0)) ∧ Below w.heap.size w w' := by
  obtain ⟨R, hR⟩ : ∃ R, runTo t false 0 = R := ⟨_, rfl⟩
  rw [hR]
  have HR : Hid (runTo t false 0 = R) := hR
  clear hR
  go_enter Try.func31, Try.ntmps31
  go_wp2_with fail
  go_loopg [] t.size (fun g wx => ∃ pos : Nat, wx.heap[w.heap.size]? = some (.stringIter t pos) ∧ Below w.heap.size w wx ∧ (∀ j, j < pos → okb false (bz t j) = true) ∧ t.size ≤ pos + g ∧ pos ≤ t.size)
  case atStart => exact ⟨0, World.iter_heap w t 0, (Below.refl _ w).alloc (Nat.le_refl _) _, fun j hj => by omega, by omega, by omega⟩
  case round =>
    obtain ⟨pos, hit, hbw, hall, hfu, hps⟩ := hrel
    have fin : (pos < t.size → okb false (bz t pos) = false) → Hid (R = pos) := fun h => by
      rw [← HR.out]
      exact (IsRun.eq ⟨Nat.zero_le _, hps, fun j _ h2 => hall j h2, h⟩).symm
    have step : okb false (bz t pos) = true → Hid (∀ j, j < pos + 1 → okb false (bz t j) = true) := fun h j hj => by
      by_cases e : j = pos
      · rw [e]
        exact h
      · exact hall j (by omega)
    clear hall HR
    by_cases hp : pos < t.size
    · obtain ⟨g, rfl⟩ : ∃ g, gk = g + 1 := ⟨gk - 1, by omega⟩
      by_cases ha : (t[pos]'hp).toNat < 128
      · have hnx : ∀ ty, (Instr.next (.pointer (some ⟨w.heap.size, 0, none⟩)) true ty).run Try.prog wr = _ := fun ty => Lib.run_next_ascii_at wr w.heap.size t pos ty hit hp ha
        have hit2 := Lib.iterAt_heap wr w.heap.size t pos (pos + 1) hit
        have hbw2 := Lib.below_iterAt hbw (k := w.heap.size) (Nat.le_refl _) t (pos + 1)
        obtain ⟨W, hWd⟩ : ∃ W, wr.iterAt w.heap.size t (pos + 1) = W := ⟨_, rfl⟩
        rw [hWd] at hnx hit2 hbw2
        have hit3 : Hid (W.heap[w.heap.size]? = some (.stringIter t (pos + 1))) := hit2
        clear hWd hit hbw hit2
        rw [bz_at t hp] at fin step
        generalize ((t[pos]'hp).toNat : Int) = x at *
        cases hk : okb false x with
        | true =>
          have HS := step hk
          clear fin step
          go_wp2_with (first | (go_at_call 15; refine (digit_runL _ _).mono ?_; rintro e w2 ⟨rfl, rfl⟩))
          go_roundg g
          case measure => omega
          case rel => exact ⟨pos + 1, hit3.out, hbw2, HS.out, by omega, by omega⟩
        | false =>
          have HF := fin (fun _ => hk)
          clear fin step
          go_wp2_with (first | (go_at_call 15; refine (digit_runL _ _).mono ?_; rintro e w2 ⟨rfl, rfl⟩))
          go_ret
          exact ⟨by rw [HF.out]; rfl, hbw2⟩
      · have hnx : ∀ ty, (Instr.next (.pointer (some ⟨w.heap.size, 0, none⟩)) true ty).run Try.prog wr = _ := fun ty => Lib.run_next_any_at wr w.heap.size t pos ty hit hp
        have hhi := (decode_high t pos hp (by omega)).1
        have hbw2 := Lib.below_iterAt hbw (k := w.heap.size) (Nat.le_refl _) t (pos + (Utf8.decode t pos).2)
        obtain ⟨X, hX⟩ : ∃ X, (Utf8.decode t pos).1 = X := ⟨_, rfl⟩
        rw [hX] at hnx hhi
        obtain ⟨W, hWd⟩ : ∃ W, wr.iterAt w.heap.size t (pos + (Utf8.decode t pos).2) = W := ⟨_, rfl⟩
        rw [hWd] at hnx hbw2
        clear hWd hit hbw hX
        have hk : okb false (X : Int) = false := by
          have h1 : letterZ (X : Int) = false := by simp [letterZ]; omega
          have h2 : digitZ (X : Int) = false := by simp [digitZ]; omega
          simp [okb, h1, h2]
        have HF := fin (fun _ => by
          rw [bz_at t hp]
          have h1 : letterZ ((t[pos]'hp).toNat : Int) = false := by simp [letterZ]; omega
          have h2 : digitZ ((t[pos]'hp).toNat : Int) = false := by simp [digitZ]; omega
          simp [okb, h1, h2])
        clear ha hhi fin step
        go_wp2_with (first | (go_at_call 15; refine (digit_runL _ _).mono ?_; rintro e w2 ⟨rfl, rfl⟩))
        go_ret
        exact ⟨by rw [HF.out]; rfl, hbw2⟩
    · have hnx : ∀ ty, (Instr.next (.pointer (some ⟨w.heap.size, 0, none⟩)) true ty).run Try.prog wr = _ := fun ty => Lib.run_next_end_at wr w.heap.size t pos ty hit hp
      have HF := fin (fun h => absurd h hp)
      have hpe : pos = t.size := by omega
      have HP : Hid (pos = t.size) := hpe
      clear fin step hpe
      go_wp2_with fail
      go_ret
      exact ⟨by rw [HF.out, HP.out]; rfl, hbw⟩

set_option maxHeartbeats 1000000 in
set_option maxRecDepth 100000 in
theorem runParts_calls (t : ByteArray) (hs : t.size ≤ 1500) (w : World) :
    Calls Try.prog 31 #[.string t, .func (.func 32) #[] #[]] w fun e w' => e = .returned (.int .i64 (runTo t true 0)) ∧ Below w.heap.size w w' := by
  obtain ⟨R, hR⟩ : ∃ R, runTo t true 0 = R := ⟨_, rfl⟩
  rw [hR]
  have HR : Hid (runTo t true 0 = R) := hR
  clear hR
  go_enter Try.func31, Try.ntmps31
  go_wp2_with fail
  go_loopg [] t.size (fun g wx => ∃ pos : Nat, wx.heap[w.heap.size]? = some (.stringIter t pos) ∧ Below w.heap.size w wx ∧ (∀ j, j < pos → okb true (bz t j) = true) ∧ t.size ≤ pos + g ∧ pos ≤ t.size)
  case atStart => exact ⟨0, World.iter_heap w t 0, (Below.refl _ w).alloc (Nat.le_refl _) _, fun j hj => by omega, by omega, by omega⟩
  case round =>
    obtain ⟨pos, hit, hbw, hall, hfu, hps⟩ := hrel
    have fin : (pos < t.size → okb true (bz t pos) = false) → Hid (R = pos) := fun h => by
      rw [← HR.out]
      exact (IsRun.eq ⟨Nat.zero_le _, hps, fun j _ h2 => hall j h2, h⟩).symm
    have step : okb true (bz t pos) = true → Hid (∀ j, j < pos + 1 → okb true (bz t j) = true) := fun h j hj => by
      by_cases e : j = pos
      · rw [e]
        exact h
      · exact hall j (by omega)
    clear hall HR
    by_cases hp : pos < t.size
    · obtain ⟨g, rfl⟩ : ∃ g, gk = g + 1 := ⟨gk - 1, by omega⟩
      by_cases ha : (t[pos]'hp).toNat < 128
      · have hnx : ∀ ty, (Instr.next (.pointer (some ⟨w.heap.size, 0, none⟩)) true ty).run Try.prog wr = _ := fun ty => Lib.run_next_ascii_at wr w.heap.size t pos ty hit hp ha
        have hit2 := Lib.iterAt_heap wr w.heap.size t pos (pos + 1) hit
        have hbw2 := Lib.below_iterAt hbw (k := w.heap.size) (Nat.le_refl _) t (pos + 1)
        obtain ⟨W, hWd⟩ : ∃ W, wr.iterAt w.heap.size t (pos + 1) = W := ⟨_, rfl⟩
        rw [hWd] at hnx hit2 hbw2
        have hit3 : Hid (W.heap[w.heap.size]? = some (.stringIter t (pos + 1))) := hit2
        clear hWd hit hbw hit2
        rw [bz_at t hp] at fin step
        generalize ((t[pos]'hp).toNat : Int) = x at *
        cases hk : okb true x with
        | true =>
          have HS := step hk
          clear fin step
          go_wp2_with (first | (go_at_call 32; refine (part_run _ _).mono ?_; rintro e w2 ⟨rfl, rfl⟩))
          go_roundg g
          case measure => omega
          case rel => exact ⟨pos + 1, hit3.out, hbw2, HS.out, by omega, by omega⟩
        | false =>
          have HF := fin (fun _ => hk)
          clear fin step
          go_wp2_with (first | (go_at_call 32; refine (part_run _ _).mono ?_; rintro e w2 ⟨rfl, rfl⟩))
          go_ret
          exact ⟨by rw [HF.out]; rfl, hbw2⟩
      · have hnx : ∀ ty, (Instr.next (.pointer (some ⟨w.heap.size, 0, none⟩)) true ty).run Try.prog wr = _ := fun ty => Lib.run_next_any_at wr w.heap.size t pos ty hit hp
        have hhi := (decode_high t pos hp (by omega)).1
        have hbw2 := Lib.below_iterAt hbw (k := w.heap.size) (Nat.le_refl _) t (pos + (Utf8.decode t pos).2)
        obtain ⟨X, hX⟩ : ∃ X, (Utf8.decode t pos).1 = X := ⟨_, rfl⟩
        rw [hX] at hnx hhi
        obtain ⟨W, hWd⟩ : ∃ W, wr.iterAt w.heap.size t (pos + (Utf8.decode t pos).2) = W := ⟨_, rfl⟩
        rw [hWd] at hnx hbw2
        clear hWd hit hbw hX
        have hk : okb true (X : Int) = false := by
          have h1 : letterZ (X : Int) = false := by simp [letterZ]; omega
          have h2 : digitZ (X : Int) = false := by simp [digitZ]; omega
          simp [okb, h1, h2]
        have HF := fin (fun _ => by
          rw [bz_at t hp]
          have h1 : letterZ ((t[pos]'hp).toNat : Int) = false := by simp [letterZ]; omega
          have h2 : digitZ ((t[pos]'hp).toNat : Int) = false := by simp [digitZ]; omega
          simp [okb, h1, h2])
        clear ha hhi fin step
        go_wp2_with (first | (go_at_call 32; refine (part_run _ _).mono ?_; rintro e w2 ⟨rfl, rfl⟩))
        go_ret
        exact ⟨by rw [HF.out]; rfl, hbw2⟩
    · have hnx : ∀ ty, (Instr.next (.pointer (some ⟨w.heap.size, 0, none⟩)) true ty).run Try.prog wr = _ := fun ty => Lib.run_next_end_at wr w.heap.size t pos ty hit hp
      have HF := fin (fun h => absurd h hp)
      have hpe : pos = t.size := by omega
      have HP : Hid (pos = t.size) := hpe
      clear fin step hpe
      go_wp2_with fail
      go_ret
      exact ⟨by rw [HF.out, HP.out]; rfl, hbw⟩

set_option maxRecDepth 100000 in
theorem clone_calls (t : ByteArray) (hs : t.size ≤ 1500) (w : World) :
    Calls Try.prog 36 #[.string t] w fun e w' => e = .returned (.string t) ∧ Below w.heap.size w w' := by
  go_enter Try.func36, Try.ntmps36
  go_wp2_with fail
  refine (Try.stringslite_Clone t _ (by omega)).mono ?_
  rintro e w2 ⟨rfl, hb⟩
  go_wp2_with fail
  go_ret
  exact ⟨rfl, hb⟩

set_option maxRecDepth 100000 in
theorem wordOf_calls (k : Int) (t : ByteArray) (n : Nat) (hn : n ≤ t.size) (hs : t.size ≤ 1500) (w : World) :
    Calls Try.prog 20 #[.int .i64 k, .string t, .int .i64 n] w fun e w' => e = .returned (.agg #[.int .i64 k, .string (t.extract 0 n), .int .i64 0]) ∧ Below w.heap.size w w' := by
  go_enter Try.func20, Try.ntmps20
  go_wp2_with fail
  refine (clone_calls _ (by simp [ByteArray.size_extract]; omega) _).mono ?_
  rintro e w2 ⟨rfl, hb⟩
  have e1 : (w.alloc (.cells #[.int .i64 0, .string ⟨#[]⟩, .int .i64 0] 30)).heap[w.heap.size]? = some (.cells #[.int .i64 0, .string ⟨#[]⟩, .int .i64 0] 30) := (MapKept.heap_alloc w _).1
  have eA := (hb.block w.heap.size (by simp)).trans e1
  have hbw : Below w.heap.size w w2 := ((Below.refl _ _).alloc (Nat.le_refl _) _).trans (hb.mono (by simp))
  have a0 := cell_of_heap eA 0
  have a1 := cell_of_heap eA 1
  have a2 := cell_of_heap eA 2
  have z0 := frozen_of_heap eA 0
  have z1 := frozen_of_heap eA 1
  have z2 := frozen_of_heap eA 2
  simp at a0 a1 a2
  clear e1 eA hb
  go_wp2_with fail
  refine bodyPost_ret (v := .agg #[.int .i64 k, .string (t.extract 0 n), .int .i64 0]) (by simp [results, Try.results20, go_sem, a0, a1, a2]) rfl ⟨rfl, ?_⟩
  repeat (first | exact hbw | refine Below.setCell ?_ (by simp) _)

set_option maxRecDepth 100000 in
theorem prefix_calls (t g : ByteArray) (w : World) :
    Calls Try.prog 34 #[.string t, .string g] w fun e w' => e = .returned (.bool (signHit t g)) ∧ w = w' := by
  by_cases hge : g.size ≤ t.size
  · have e : signHit t g = ((t.extract 0 g.size).toList == g.toList) := by simp [signHit, hge]
    rw [e]
    go_enter Try.func34, Try.ntmps34
    go_wp2
    go_ret
    exact ⟨rfl, rfl⟩
  · have e : signHit t g = false := by simp [signHit, hge]
    rw [e]
    go_enter Try.func34, Try.ntmps34
    go_wp2
    go_ret
    exact ⟨rfl, rfl⟩
end Go.Proofs.Ytnhofdngmbnlkaa

/- A rune beyond ASCII stands in no text of ASCII signs. -/
namespace Go.Proofs.Ytnhofdngmbnlkaa
open Go.RowKit

theorem encode_high (r : Nat) (h : 128 ≤ r) :
    (∃ x y : UInt8, Utf8.encode (r : Int) = ⟨#[x, y]⟩ ∧ 128 ≤ y.toNat) ∨ (∃ x y z : UInt8, Utf8.encode (r : Int) = ⟨#[x, y, z]⟩ ∧ 128 ≤ z.toNat) ∨ (∃ x y z u : UInt8, Utf8.encode (r : Int) = ⟨#[x, y, z, u]⟩ ∧ 128 ≤ u.toNat) := by
  have hlast : ∀ c : Nat, 128 ≤ (UInt8.ofNat (128 + c % 64)).toNat := fun c => by
    simp
    omega
  unfold Utf8.encode
  dsimp only
  have hc : ¬ (if Utf8.valid (r : Int) then (r : Int).toNat else Utf8.runeError) < 128 := by
    split
    · simp; omega
    · decide
  generalize (if Utf8.valid (r : Int) then (r : Int).toNat else Utf8.runeError) = c at *
  rw [if_neg hc]
  split
  · exact Or.inl ⟨_, _, rfl, hlast c⟩
  · split
    · exact Or.inr (Or.inl ⟨_, _, _, rfl, hlast c⟩)
    · exact Or.inr (Or.inr ⟨_, _, _, _, rfl, hlast c⟩)

theorem indexByte_none (c : UInt8) (hc : 128 ≤ c.toNat) : ∀ l : List UInt8, (∀ b ∈ l, b.toNat < 128) → Lib.indexByte l c = -1
  | [], _ => rfl
  | b :: l, h => by
    have hb := h b (by simp)
    have hne : (b == c) = false := by
      rw [beq_eq_false_iff_ne]
      intro e
      rw [e] at hb
      omega
    have ih := indexByte_none c hc l (fun x hx => h x (by simp [hx]))
    simp [Lib.indexByte, hne, ih]

theorem index_high (s : ByteArray) (y : UInt8) (hy : 128 ≤ y.toNat) (hs : ∀ b ∈ s.data.toList, b.toNat < 128) (w : World) :
    Calls Try.prog 67 #[.string s, .int .u8 (y.toNat : Int)] w fun e w' => e = .returned (.int .i64 (-1)) ∧ w' = w := by
  refine (Try.strings_IndexByte s _ w).mono ?_
  rintro e w' ⟨rfl, rfl⟩
  rw [indexByte_none _ (by simpa using hy) _ hs]
  exact ⟨rfl, rfl⟩

set_option maxHeartbeats 1000000 in
set_option maxRecDepth 1000000 in
theorem high_calls (r : Nat) (h0 : 128 ≤ r) (w : World) :
    Calls Try.prog 50 #[.string ⟨#[40, 41, 44, 43, 45, 42, 61, 60, 124, 58, 59]⟩, .int .i32 r] w fun e w' => e = .returned (.int .i64 (-1)) ∧ Below w.heap.size w w' := by
  by_cases he : (r : Int) = 65533
  · have he' : ((r : Int) == 65533) = true := by rw [he]; rfl
    clear he
    go_enter Try.func50, Try.ntmps50
    go_wp2_with fail
    obtain ⟨t, ht⟩ : ∃ t : ByteArray, t = ⟨#[40, 41, 44, 43, 45, 42, 61, 60, 124, 58, 59]⟩ := ⟨_, rfl⟩
    have hts : t.size = 11 := by rw [ht]; rfl
    have hta : ∀ j (hj : j < t.size), (t[j]'hj).toNat < 128 := by
      subst ht
      decide
    rw [← ht]
    have Hts : Hid (t.size = 11) := hts
    have Hta : Hid (∀ j (hj : j < t.size), (t[j]'hj).toNat < 128) := hta
    clear ht hts hta
    go_loopg [] 12 (fun g wx => ∃ pos : Nat, wx.heap[w.heap.size]? = some (.stringIter t pos) ∧ Below w.heap.size w wx ∧ 12 ≤ pos + g)
    case atStart => exact ⟨0, World.iter_heap w t 0, (Below.refl _ w).alloc (Nat.le_refl _) _, by omega⟩
    case round =>
      obtain ⟨pos, hit, hbw, hfu⟩ := hrel
      by_cases hp : pos < t.size
      · obtain ⟨g, rfl⟩ : ∃ g, gk = g + 1 := ⟨gk - 1, by have := Hts.out; omega⟩
        have ha := Hta.out pos hp
        have hnx : ∀ ty, (Instr.next (.pointer (some ⟨w.heap.size, 0, none⟩)) true ty).run Try.prog wr = _ := fun ty => Lib.run_next_ascii_at wr w.heap.size t pos ty hit hp ha
        have hit2 := Lib.iterAt_heap wr w.heap.size t pos (pos + 1) hit
        have hbw2 := Lib.below_iterAt hbw (k := w.heap.size) (Nat.le_refl _) t (pos + 1)
        obtain ⟨W, hWd⟩ : ∃ W, wr.iterAt w.heap.size t (pos + 1) = W := ⟨_, rfl⟩
        rw [hWd] at hnx hit2 hbw2
        have hit3 : Hid (W.heap[w.heap.size]? = some (.stringIter t (pos + 1))) := hit2
        have hne : (((t[pos]'hp).toNat : Int) == 65533) = false := by rw [beq_eq_false_iff_ne]; omega
        clear hWd hit hbw hit2 ha Hta
        generalize ((t[pos]'hp).toNat : Int) = x at *
        go_wp2_with fail
        go_roundg g
        case measure => omega
        case rel => exact ⟨pos + 1, hit3.out, hbw2, by omega⟩
      · have hnx : ∀ ty, (Instr.next (.pointer (some ⟨w.heap.size, 0, none⟩)) true ty).run Try.prog wr = _ := fun ty => Lib.run_next_end_at wr w.heap.size t pos ty hit hp
        go_wp2_with fail
        go_ret
        exact ⟨rfl, hbw⟩
  · have he' : ((r : Int) == 65533) = false := by rw [beq_eq_false_iff_ne]; exact he
    clear he
    have hvr := Try.utf8_ValidRune (r : Int)
    cases hv : Lib.validRune (r : Int) with
    | false =>
      rw [hv] at hvr
      have HV : Hid (∀ w, _) := hvr
      clear hvr hv
      go_enter Try.func50, Try.ntmps50
      go_wp2_with fail
      refine (HV.out _).mono ?_
      rintro e w2 ⟨rfl, rfl⟩
      go_wp2_with fail
      go_ret
      exact ⟨rfl, Below.refl _ _⟩
    | true =>
      rw [hv] at hvr
      have HV : Hid (∀ w, _) := hvr
      have hen := encode_high r h0
      clear hvr hv
      go_enter Try.func50, Try.ntmps50
      go_wp2_with fail
      refine (HV.out _).mono ?_
      rintro e w2 ⟨rfl, rfl⟩
      clear HV
      rcases hen with ⟨x, y, hE, hy⟩ | ⟨x, y, z, hE, hy⟩ | ⟨x, y, z, u, hE, hy⟩
      · have hne : ((((⟨#[40, 41, 44, 43, 45, 42, 61, 60, 124, 58, 59]⟩ : ByteArray)[1]'(by decide)).toNat : Int) != (((⟨#[x, y]⟩ : ByteArray)[1]'(show 1 < 2 by omega)).toNat : Int)) = true := by
          show ((41 : Int) != (y.toNat : Int)) = true
          rw [bne_iff_ne]
          omega
        go_wp2_with fail
        go_step3
        go_wp2_with fail
        refine wp_loop_rounds 1 ?_
        rw [rounds_succ]
        go_wp2_with fail
        go_step3
        go_wp2_with fail
        go_quiet (fail)
        go_wp2_with fail
        have hbq : Below w2.heap.size w2 (w2.drewN nq) := below_drewN (Below.refl _ _) nq
        generalize w2.drewN nq = W at *
        go_quiet (first | (go_at_call 67; refine Calls.quiet_of_same (index_high _ y hy (by decide) _)))
        go_wp2_with fail
        dsimp only [Exit.noGoto, Exit.inBlock, Exit.then]
        go_ret
        exact ⟨rfl, below_drewN hbq _⟩
      · have hne : ((((⟨#[40, 41, 44, 43, 45, 42, 61, 60, 124, 58, 59]⟩ : ByteArray)[2]'(by decide)).toNat : Int) != (((⟨#[x, y, z]⟩ : ByteArray)[2]'(show 2 < 3 by omega)).toNat : Int)) = true := by
          show ((44 : Int) != (z.toNat : Int)) = true
          rw [bne_iff_ne]
          omega
        go_wp2_with fail
        go_step3
        go_wp2_with fail
        refine wp_loop_rounds 1 ?_
        rw [rounds_succ]
        go_wp2_with fail
        go_step3
        go_wp2_with fail
        go_quiet (fail)
        go_wp2_with fail
        have hbq : Below w2.heap.size w2 (w2.drewN nq) := below_drewN (Below.refl _ _) nq
        generalize w2.drewN nq = W at *
        go_quiet (first | (go_at_call 67; refine Calls.quiet_of_same (index_high _ z hy (by decide) _)))
        go_wp2_with fail
        dsimp only [Exit.noGoto, Exit.inBlock, Exit.then]
        go_ret
        exact ⟨rfl, below_drewN hbq _⟩
      · have hne : ((((⟨#[40, 41, 44, 43, 45, 42, 61, 60, 124, 58, 59]⟩ : ByteArray)[3]'(by decide)).toNat : Int) != (((⟨#[x, y, z, u]⟩ : ByteArray)[3]'(show 3 < 4 by omega)).toNat : Int)) = true := by
          show ((43 : Int) != (u.toNat : Int)) = true
          rw [bne_iff_ne]
          omega
        go_wp2_with fail
        go_step3
        go_wp2_with fail
        refine wp_loop_rounds 1 ?_
        rw [rounds_succ]
        go_wp2_with fail
        go_step3
        go_wp2_with fail
        go_quiet (fail)
        go_wp2_with fail
        have hbq : Below w2.heap.size w2 (w2.drewN nq) := below_drewN (Below.refl _ _) nq
        generalize w2.drewN nq = W at *
        go_quiet (first | (go_at_call 67; refine Calls.quiet_of_same (index_high _ u hy (by decide) _)))
        go_wp2_with fail
        dsimp only [Exit.noGoto, Exit.inBlock, Exit.then]
        go_ret
        exact ⟨rfl, below_drewN hbq _⟩
end Go.Proofs.Ytnhofdngmbnlkaa

/- The word with which a rest begins, as the program finds it, is the plain one. -/
namespace Go.Proofs.Ytnhofdngmbnlkaa
open Go.RowKit

/-- The signs of one byte. -/
def isShort (n : Nat) : Bool := [40, 41, 44, 43, 45, 42, 61, 60, 124, 58, 59].contains n

set_option maxRecDepth 100000 in
theorem short_index : ∀ n : Nat, n < 128 → decide (0 ≤ Lib.indexByte [40, 41, 44, 43, 45, 42, 61, 60, 124, 58, 59] (n : Int).toNat.toUInt8) = isShort n := by
  decide

/-- A rest's first rune: its first byte, or something beyond ASCII where that byte is. -/
def FirstRune (t : ByteArray) (r : Nat) : Prop := ∃ h : 0 < t.size, ((t[0]'h).toNat < 128 ∧ r = (t[0]'h).toNat) ∨ (128 ≤ (t[0]'h).toNat ∧ 128 ≤ r)

set_option maxRecDepth 100000 in
theorem containsR_calls (r : Nat) (w : World) :
    Calls Try.prog 35 #[.string ⟨#[40, 41, 44, 43, 45, 42, 61, 60, 124, 58, 59]⟩, .int .i32 r] w fun e w' => e = .returned (.bool (decide (r < 128) && isShort r)) ∧ Below w.heap.size w w' := by
  by_cases h : r < 128
  · refine (Try.strings_ContainsRune_ascii _ (r : Int) w (by omega) (by omega)).mono ?_
    rintro e w' ⟨rfl, rfl⟩
    refine ⟨?_, Below.refl _ _⟩
    rw [short_index r h, decide_eq_true h]
    rfl
  · have e : (decide (r < 128) && isShort r) = false := by simp [h]
    rw [e]
    have hc := high_calls r (by omega)
    have HC : Hid (∀ w, _) := hc
    clear hc e
    go_enter Try.func35, Try.ntmps35
    go_wp2_with fail
    refine (HC.out _).mono ?_
    rintro e w2 ⟨rfl, hb⟩
    go_wp2_with fail
    go_ret
    exact ⟨rfl, hb⟩

theorem hit_one (t : ByteArray) (h : 0 < t.size) (c : UInt8) : signHit t ⟨#[c]⟩ = (t[0]'h == c) := by
  have h1 : (⟨#[c]⟩ : ByteArray).size = 1 := rfl
  have e : (t.extract 0 1).toList = [t[0]'h] := by
    rw [ByteArray.toList_eq, ByteArray.data_extract]
    have hd : 0 < t.data.toList.length := by rw [Array.length_toList]; exact h
    rw [Array.toList_extract]
    cases hl : t.data.toList with
    | nil => rw [hl] at hd; simp at hd
    | cons x r =>
      have hx : t[0]'h = x := by
        have : t.data.toList[0]'hd = x := by simp [hl]
        rw [← this]
        rfl
      simp [hx, List.extract]
  have e2 : (⟨#[c]⟩ : ByteArray).toList = [c] := by rw [ByteArray.toList_eq]
  unfold signHit
  rw [h1, e, e2]
  simp [show 1 ≤ t.size from h]

set_option maxRecDepth 100000 in
theorem short_of (b : UInt8) : ((([[40], [41], [44], [43], [45], [42], [61], [60], [124], [58], [59]] : List (List UInt8)).find? (fun g => g == [b])).getD []).length = if isShort b.toNat then 1 else 0 := by
  have h : ∀ n : Nat, n < 256 → ((([[40], [41], [44], [43], [45], [42], [61], [60], [124], [58], [59]] : List (List UInt8)).find? (fun g => g == [UInt8.ofNat n])).getD []).length = if isShort (UInt8.ofNat n).toNat then 1 else 0 := by decide
  have := h b.toNat b.toNat_lt
  simpa using this

theorem sign_short (t : ByteArray) (h : 0 < t.size) (hno : ∀ j, j < 3 → signHit t (signStrs.getD j ByteArray.empty) = false) : (signOf t).size = if isShort (t[0]'h).toNat then 1 else 0 := by
  have n0 := hno 0 (by omega)
  have n1 := hno 1 (by omega)
  have n2 := hno 2 (by omega)
  rw [← short_of]
  unfold signOf
  have e : signStrs = [signStrs.getD 0 ByteArray.empty, signStrs.getD 1 ByteArray.empty, signStrs.getD 2 ByteArray.empty] ++ ([[40], [41], [44], [43], [45], [42], [61], [60], [124], [58], [59]] : List (List UInt8)).map (fun l => ⟨l.toArray⟩) := rfl
  have hf : ∀ (l : List UInt8), (l.map fun c => ([c] : List UInt8)).find? (fun g => signHit t ⟨g.toArray⟩) = (l.map fun c => ([c] : List UInt8)).find? (fun g => g == [t[0]'h]) := by
    intro l
    induction l with
    | nil => rfl
    | cons c r ih =>
      have hc : signHit t ⟨([c] : List UInt8).toArray⟩ = (t[0]'h == c) := hit_one t h c
      have hc2 : (([c] : List UInt8) == [t[0]'h]) = (t[0]'h == c) := by
        rw [Bool.eq_iff_iff]
        simp
        exact eq_comm
      rw [List.map_cons, List.find?_cons, List.find?_cons, hc, hc2, ih]
  have hl : ([[40], [41], [44], [43], [45], [42], [61], [60], [124], [58], [59]] : List (List UInt8)) = ([40, 41, 44, 43, 45, 42, 61, 60, 124, 58, 59] : List UInt8).map fun c => [c] := rfl
  rw [e, List.find?_append]
  have hn : [signStrs.getD 0 ByteArray.empty, signStrs.getD 1 ByteArray.empty, signStrs.getD 2 ByteArray.empty].find? (signHit t) = none := by
    rw [List.find?_eq_none]
    intro x hx
    simp only [List.mem_cons, List.not_mem_nil, or_false] at hx
    rcases hx with rfl | rfl | rfl
    · rw [n0]; simp
    · rw [n1]; simp
    · rw [n2]; simp
  rw [hn, Option.none_or, List.find?_map]
  have hcomp : (signHit t ∘ fun l : List UInt8 => (⟨l.toArray⟩ : ByteArray)) = fun g => signHit t ⟨g.toArray⟩ := rfl
  rw [hcomp, hl, hf]
  cases hfind : (([40, 41, 44, 43, 45, 42, 61, 60, 124, 58, 59] : List UInt8).map fun c => ([c] : List UInt8)).find? (fun g => g == [t[0]'h]) with
  | none => rfl
  | some g => rfl

set_option maxHeartbeats 1000000 in
set_option maxRecDepth 100000 in
theorem signSize_calls (t : ByteArray) (r : Nat) (hr : FirstRune t r) (w : World) :
    Calls Try.prog 19 #[.string t, .int .i32 r] w fun e w' => e = .returned (.int .i64 (signOf t).size) ∧ Below w.heap.size w w' := by
  obtain ⟨h0, hr⟩ := hr
  obtain ⟨Z, hZ⟩ : ∃ Z, (signOf t).size = Z := ⟨_, rfl⟩
  rw [hZ]
  have HZ : Hid ((signOf t).size = Z) := hZ
  have Hr : Hid (((t[0]'h0).toNat < 128 ∧ r = (t[0]'h0).toNat) ∨ (128 ≤ (t[0]'h0).toNat ∧ 128 ≤ r)) := hr
  clear hZ hr
  go_enter Try.func19, Try.ntmps19
  go_wp2_with fail
  have hblk : (w.alloc (.cells #[.string ⟨#[45, 62]⟩, .string ⟨#[61, 62]⟩, .string ⟨#[58, 58]⟩] 9)).heap[w.heap.size]? = some (.cells #[.string ⟨#[45, 62]⟩, .string ⟨#[61, 62]⟩, .string ⟨#[58, 58]⟩] 9) := (MapKept.heap_alloc w _).1
  have hb1 : Below w.heap.size w (w.alloc (.cells #[.string ⟨#[45, 62]⟩, .string ⟨#[61, 62]⟩, .string ⟨#[58, 58]⟩] 9)) := (Below.refl _ _).alloc (Nat.le_refl _) _
  generalize w.alloc (.cells #[.string ⟨#[45, 62]⟩, .string ⟨#[61, 62]⟩, .string ⟨#[58, 58]⟩] 9) = W at *
  have hcell : ∀ k, k < 3 → W.cell? ⟨w.heap.size, k, none⟩ = some (.string (signStrs.getD k ByteArray.empty)) := by
    intro k hk
    rw [cell_of_heap hblk k]
    match k, hk with
    | 0, _ => rfl
    | 1, _ => rfl
    | 2, _ => rfl
  have hsz : ∀ k, k < 3 → (signStrs.getD k ByteArray.empty).size = 2 := by decide
  clear hblk
  go_loop [9] (fun i => ∃ k : Nat, i = .int .i64 k ∧ k ≤ 3 ∧ Hid (∀ j, j < k → signHit t (signStrs.getD j ByteArray.empty) = false)) (fun i => 3 - (intOf i).toNat)
  case atStart => exact ⟨0, rfl, by omega, fun j hj => by omega⟩
  case round =>
    obtain ⟨k, rfl, hk, HA⟩ := hrel
    by_cases hlt : k < 3
    · have c := hcell k hlt
      have hs2 := hsz k hlt
      obtain ⟨g, hg⟩ : ∃ g, signStrs.getD k ByteArray.empty = g := ⟨_, rfl⟩
      rw [hg] at c hs2
      have HG : Hid (signStrs.getD k ByteArray.empty = g) := hg
      clear hcell hsz hg
      cases hh : signHit t g with
      | true =>
        have HF : Hid (Z = 2) := by
          rw [← HZ.out, signOf_hit (by omega) HG.out hh HA.out, hs2]
          rfl
        have hs3 : Hid (g.size = 2) := hs2
        clear HA HG HZ Hr hs2
        go_wp2_with (first | (go_at_call 34; refine (prefix_calls _ _ _).mono ?_; rintro e w2 ⟨rfl, rfl⟩))
        go_ret
        exact ⟨by rw [HF.out, ← hs3.out]; rfl, hb1⟩
      | false =>
        have HS : Hid (∀ j, j < k + 1 → signHit t (signStrs.getD j ByteArray.empty) = false) := fun j hj => by
          by_cases e : j = k
          · rw [e, HG.out]
            exact hh
          · exact HA.out j (by omega)
        clear HA HG HZ Hr hs2
        go_wp2_with (first | (go_at_call 34; refine (prefix_calls _ _ _).mono ?_; rintro e w2 ⟨rfl, rfl⟩))
        exact ⟨⟨k + 1, by simp, by omega, HS⟩, by simp [intOf]; omega⟩
    · have hk3 : k = 3 := by omega
      have hz := sign_short t h0 (hk3 ▸ HA.out)
      rw [HZ.out] at hz
      cases hc : (decide (r < 128) && isShort r) with
      | true =>
        have HF : Hid (Z = 1) := by
          show Z = 1
          rw [hz]
          simp at hc
          rcases Hr.out with ⟨_, e⟩ | ⟨_, e⟩
          · rw [← e, if_pos hc.2]
          · omega
        have hcc := containsR_calls r
        rw [hc] at hcc
        have HC : Hid (∀ w, _) := hcc
        clear hcc hz HZ Hr HA hc hcell hsz
        go_wp2_with fail
        refine (HC.out _).mono ?_
        rintro e w2 ⟨rfl, hb2⟩
        go_wp2_with fail
        go_ret
        exact ⟨by rw [HF.out]; rfl, hb1.trans (hb2.mono hb1.size)⟩
      | false =>
        have HF : Hid (Z = 0) := by
          show Z = 0
          rw [hz]
          rcases Hr.out with ⟨h1, e⟩ | ⟨h1, e⟩
          · rw [← e]
            simp at hc
            rw [if_neg (by rw [hc (by omega)]; simp)]
          · have : ∀ n, 128 ≤ n → isShort n = false := by
              intro n hn
              simp [isShort]
              omega
            rw [if_neg (by rw [this _ h1]; simp)]
        have hcc := containsR_calls r
        rw [hc] at hcc
        have HC : Hid (∀ w, _) := hcc
        clear hcc hz HZ Hr HA hc hcell hsz
        go_wp2_with fail
        refine (HC.out _).mono ?_
        rintro e w2 ⟨rfl, hb2⟩
        go_wp2_with fail
        go_ret
        exact ⟨by rw [HF.out]; rfl, hb1.trans (hb2.mono hb1.size)⟩

/-- What the first word of a rest is told by: its place is not told yet. -/
def restVal : Except Int (Wd × Nat) → Value
  | .error c => .tuple #[.agg #[.int .i64 0, .string ⟨#[]⟩, .int .i64 0], .int .i64 c]
  | .ok (d, _) => .tuple #[.agg #[.int .i64 d.kind, .string d.text, .int .i64 0], .int .i64 0]

/-- A sign with which a text begins is its beginning. -/
theorem signOf_fit (t : ByteArray) : (signOf t).size ≤ t.size ∧ t.extract 0 (signOf t).size = signOf t := by
  unfold signOf
  cases h : signStrs.find? (signHit t) with
  | none =>
    refine ⟨Nat.zero_le _, ?_⟩
    show t.extract 0 0 = ByteArray.empty
    simp
  | some g =>
    have hh := List.find?_some h
    simp only [signHit, Bool.and_eq_true, decide_eq_true_eq, beq_iff_eq] at hh
    refine ⟨hh.1, ?_⟩
    show t.extract 0 g.size = g
    have := hh.2
    rw [ByteArray.toList_eq, ByteArray.toList_eq] at this
    exact WideShapes.bytes_inj this

set_option maxHeartbeats 1000000 in
set_option maxRecDepth 100000 in
theorem number_calls (t : ByteArray) (hs : t.size ≤ 1500) (h0 : 0 < t.size) (hd : digitZ ((t[0]'h0).toNat : Int) = true) (w : World) :
    Calls Try.prog 16 #[.string t, .int .i32 ((t[0]'h0).toNat : Int)] w fun e w' => e = .returned (restVal (wordAt t 0)) ∧ Below w.heap.size w w' := by
  obtain ⟨V, hV⟩ : ∃ V, wordAt t 0 = V := ⟨_, rfl⟩
  rw [hV]
  unfold wordAt at hV
  rw [bz_at t h0, if_pos hd] at hV
  dsimp only at hV
  obtain ⟨h1, h2, h3, h4⟩ := isRun_runTo t false (p := 0) (by omega)
  have hrun := runDigits_calls t hs
  obtain ⟨R, hR⟩ : ∃ R, runTo t false 0 = R := ⟨_, rfl⟩
  rw [hR] at h1 h2 h3 h4 hrun hV
  have HR : Hid (∀ w, _) := hrun
  clear hrun hR h3 h4
  generalize ((t[0]'h0).toNat : Int) = x at *
  by_cases h9 : 9 < R
  · rw [if_pos (Or.inl (by omega))] at hV
    subst hV
    go_enter Try.func16, Try.ntmps16
    go_wp2_with fail
    refine (HR.out _).mono ?_
    rintro e w2 ⟨rfl, hb⟩
    obtain ⟨eA, hbw⟩ := one_kept hb
    clear hb
    have a0 := cell_of_heap eA 0
    have a1 := cell_of_heap eA 1
    have a2 := cell_of_heap eA 2
    have z0 := frozen_of_heap eA 0
    have z1 := frozen_of_heap eA 1
    have z2 := frozen_of_heap eA 2
    simp at a0 a1 a2
    clear eA
    go_wp2_with fail
    refine bodyPost_ret (v := restVal (.error 3)) (by simp [restVal, results, Try.results16, go_sem, a0, a1, a2]) rfl ⟨rfl, ?_⟩
    repeat (first | exact hbw | refine Below.setCell ?_ (by simp) _)
  by_cases h1' : 1 < R
  · by_cases h48 : x = 48
    · have hb48 : (x == 48) = true := by rw [h48]; rfl
      rw [if_pos (Or.inr ⟨h48, by omega⟩)] at hV
      subst hV
      clear h48 hd
      go_enter Try.func16, Try.ntmps16
      go_wp2_with fail
      refine (HR.out _).mono ?_
      rintro e w2 ⟨rfl, hb⟩
      obtain ⟨eA, hbw⟩ := one_kept hb
      clear hb
      have a0 := cell_of_heap eA 0
      have a1 := cell_of_heap eA 1
      have a2 := cell_of_heap eA 2
      have z0 := frozen_of_heap eA 0
      have z1 := frozen_of_heap eA 1
      have z2 := frozen_of_heap eA 2
      simp at a0 a1 a2
      clear eA
      go_wp2_with fail
      refine bodyPost_ret (v := restVal (.error 3)) (by simp [restVal, results, Try.results16, go_sem, a0, a1, a2]) rfl ⟨rfl, ?_⟩
      repeat (first | exact hbw | refine Below.setCell ?_ (by simp) _)
    · have hb48 : (x == 48) = false := by rw [beq_eq_false_iff_ne]; exact h48
      rw [if_neg (by omega)] at hV
      subst hV
      clear h48 hd
      go_enter Try.func16, Try.ntmps16
      go_wp2_with fail
      refine (HR.out _).mono ?_
      rintro e w2 ⟨rfl, hb⟩
      obtain ⟨eA, hbw⟩ := one_kept hb
      clear hb
      go_wp2_with fail
      refine (wordOf_calls _ _ _ h2 hs _).mono ?_
      rintro e w3 ⟨rfl, hb3⟩
      replace eA := (hb3.block w.heap.size (Array.getElem?_eq_some_iff.1 eA).1).trans eA
      replace hbw := hbw.trans (hb3.mono hbw.size)
      clear hb3
      have a0 := cell_of_heap eA 0
      have a1 := cell_of_heap eA 1
      have a2 := cell_of_heap eA 2
      have z0 := frozen_of_heap eA 0
      have z1 := frozen_of_heap eA 1
      have z2 := frozen_of_heap eA 2
      simp at a0 a1 a2
      clear eA
      go_wp2_with fail
      refine bodyPost_ret (v := restVal (.ok (⟨1, t.extract 0 R, 0⟩, R))) (by simp [restVal, results, Try.results16, go_sem, a0, a1, a2]) rfl ⟨rfl, ?_⟩
      repeat (first | exact hbw | refine Below.setCell ?_ (by simp) _)
  · rw [if_neg (by omega)] at hV
    subst hV
    clear hd
    go_enter Try.func16, Try.ntmps16
    go_wp2_with fail
    refine (HR.out _).mono ?_
    rintro e w2 ⟨rfl, hb⟩
    obtain ⟨eA, hbw⟩ := one_kept hb
    clear hb
    go_wp2_with fail
    refine (wordOf_calls _ _ _ h2 hs _).mono ?_
    rintro e w3 ⟨rfl, hb3⟩
    replace eA := (hb3.block w.heap.size (Array.getElem?_eq_some_iff.1 eA).1).trans eA
    replace hbw := hbw.trans (hb3.mono hbw.size)
    clear hb3
    have a0 := cell_of_heap eA 0
    have a1 := cell_of_heap eA 1
    have a2 := cell_of_heap eA 2
    have z0 := frozen_of_heap eA 0
    have z1 := frozen_of_heap eA 1
    have z2 := frozen_of_heap eA 2
    simp at a0 a1 a2
    clear eA
    go_wp2_with fail
    refine bodyPost_ret (v := restVal (.ok (⟨1, t.extract 0 R, 0⟩, R))) (by simp [restVal, results, Try.results16, go_sem, a0, a1, a2]) rfl ⟨rfl, ?_⟩
    repeat (first | exact hbw | refine Below.setCell ?_ (by simp) _)

set_option maxHeartbeats 1000000 in
set_option maxRecDepth 100000 in
theorem nameAt_calls (t : ByteArray) (hs : t.size ≤ 1500) (h0 : 0 < t.size) (hd : digitZ ((t[0]'h0).toNat : Int) = false) (hL : letterZ ((t[0]'h0).toNat : Int) = true) (w : World) :
    Calls Try.prog 18 #[.string t] w fun e w' => e = .returned (restVal (wordAt t 0)) ∧ Below w.heap.size w w' := by
  obtain ⟨V, hV⟩ : ∃ V, wordAt t 0 = V := ⟨_, rfl⟩
  rw [hV]
  unfold wordAt at hV
  rw [bz_at t h0, if_neg (by rw [hd]; simp), if_pos hL] at hV
  dsimp only at hV
  obtain ⟨h1, h2, h3, h4⟩ := isRun_runTo t true (p := 0) (by omega)
  have hrun := runParts_calls t hs
  obtain ⟨R, hR⟩ : ∃ R, runTo t true 0 = R := ⟨_, rfl⟩
  rw [hR] at h1 h2 h3 h4 hrun hV
  have HR : Hid (∀ w, _) := hrun
  clear hrun hR h3 h4 hd hL
  by_cases h8 : 8 < R
  · rw [if_pos (by omega)] at hV
    subst hV
    go_enter Try.func18, Try.ntmps18
    go_wp2_with fail
    refine (HR.out _).mono ?_
    rintro e w2 ⟨rfl, hb⟩
    obtain ⟨eA, hbw⟩ := one_kept hb
    clear hb
    have a0 := cell_of_heap eA 0
    have a1 := cell_of_heap eA 1
    have a2 := cell_of_heap eA 2
    have z0 := frozen_of_heap eA 0
    have z1 := frozen_of_heap eA 1
    have z2 := frozen_of_heap eA 2
    simp at a0 a1 a2
    clear eA
    go_wp2_with fail
    refine bodyPost_ret (v := restVal (.error 4)) (by simp [restVal, results, Try.results18, go_sem, a0, a1, a2]) rfl ⟨rfl, ?_⟩
    repeat (first | exact hbw | refine Below.setCell ?_ (by simp) _)
  rw [if_neg (by omega)] at hV
  go_enter Try.func18, Try.ntmps18
  go_wp2_with fail
  refine (HR.out _).mono ?_
  rintro e w2 ⟨rfl, hb⟩
  obtain ⟨eA, hbw⟩ := one_kept hb
  clear hb
  have hsx : (t.extract 0 R).size ≤ maxLen := by
    rw [ByteArray.size_extract]
    unfold maxLen
    omega
  go_wp2_with fail
  refine (implKey_calls _ hsx _).mono ?_
  rintro e w3 ⟨rfl, hb3⟩
  replace eA := (hb3.block w.heap.size (Array.getElem?_eq_some_iff.1 eA).1).trans eA
  replace hbw := hbw.trans (hb3.mono hbw.size)
  clear hb3 hsx
  cases hK : isKey (t.extract 0 R) with
  | true =>
    rw [hK, if_pos rfl] at hV
    subst hV
    go_wp2_with fail
    refine (wordOf_calls _ _ _ h2 hs _).mono ?_
    rintro e w4 ⟨rfl, hb4⟩
    replace eA := (hb4.block w.heap.size (Array.getElem?_eq_some_iff.1 eA).1).trans eA
    replace hbw := hbw.trans (hb4.mono hbw.size)
    clear hb4
    have a0 := cell_of_heap eA 0
    have a1 := cell_of_heap eA 1
    have a2 := cell_of_heap eA 2
    have z0 := frozen_of_heap eA 0
    have z1 := frozen_of_heap eA 1
    have z2 := frozen_of_heap eA 2
    simp at a0 a1 a2
    clear eA
    go_wp2_with fail
    refine bodyPost_ret (v := restVal (.ok (⟨3, t.extract 0 R, 0⟩, R))) (by simp [restVal, results, Try.results18, go_sem, a0, a1, a2]) rfl ⟨rfl, ?_⟩
    repeat (first | exact hbw | refine Below.setCell ?_ (by simp) _)
  | false =>
    rw [hK, if_neg (by simp)] at hV
    subst hV
    go_wp2_with fail
    refine (wordOf_calls _ _ _ h2 hs _).mono ?_
    rintro e w4 ⟨rfl, hb4⟩
    replace eA := (hb4.block w.heap.size (Array.getElem?_eq_some_iff.1 eA).1).trans eA
    replace hbw := hbw.trans (hb4.mono hbw.size)
    clear hb4
    have a0 := cell_of_heap eA 0
    have a1 := cell_of_heap eA 1
    have a2 := cell_of_heap eA 2
    have z0 := frozen_of_heap eA 0
    have z1 := frozen_of_heap eA 1
    have z2 := frozen_of_heap eA 2
    simp at a0 a1 a2
    clear eA
    go_wp2_with fail
    refine bodyPost_ret (v := restVal (.ok (⟨2, t.extract 0 R, 0⟩, R))) (by simp [restVal, results, Try.results18, go_sem, a0, a1, a2]) rfl ⟨rfl, ?_⟩
    repeat (first | exact hbw | refine Below.setCell ?_ (by simp) _)

set_option maxHeartbeats 1000000 in
set_option maxRecDepth 100000 in
theorem first_calls (t : ByteArray) (r : Nat) (hs : t.size ≤ 1500) (hr : FirstRune t r) (w : World) :
    Calls Try.prog 9 #[.string t, .int .i32 r] w fun e w' => e = .returned (restVal (wordAt t 0)) ∧ Below w.heap.size w w' := by
  have hr' := hr
  obtain ⟨h0, hr⟩ := hr
  cases hd : digitZ (r : Int) with
  | true =>
    have e : r = (t[0]'h0).toNat := by
      rcases hr with ⟨_, e⟩ | ⟨_, e⟩
      · exact e
      · have : digitZ (r : Int) = false := by simp [digitZ]; omega
        rw [this] at hd
        cases hd
    have hn := number_calls t hs h0 (by rw [← e]; exact hd)
    rw [← e] at hn
    have HR : Hid (∀ w, _) := hn
    clear hn hr hr' e
    generalize wordAt t 0 = V at *
    go_enter Try.func9, Try.ntmps9
    go_wp2_with (first | (go_at_call 15; refine (digit20 _ _).mono ?_; rintro e w2 ⟨rfl, rfl⟩))
    refine (HR.out _).mono ?_
    rintro e w2 ⟨rfl, hb⟩
    obtain ⟨eA, hbw⟩ := one_kept hb
    clear hb
    have a0 := cell_of_heap eA 0
    have a1 := cell_of_heap eA 1
    have a2 := cell_of_heap eA 2
    have z0 := frozen_of_heap eA 0
    have z1 := frozen_of_heap eA 1
    have z2 := frozen_of_heap eA 2
    simp at a0 a1 a2
    clear eA
    cases V with
    | error c =>
      simp only [restVal]
      go_wp2_with fail
      refine bodyPost_ret (v := restVal (.error c)) (by simp [restVal, results, Try.results9, go_sem, a0, a1, a2]) rfl ⟨rfl, ?_⟩
      repeat (first | exact hbw | refine Below.setCell ?_ (by simp) _)
    | ok de =>
      obtain ⟨d, e⟩ := de
      simp only [restVal]
      go_wp2_with fail
      refine bodyPost_ret (v := restVal (.ok (d, e))) (by simp [restVal, results, Try.results9, go_sem, a0, a1, a2]) rfl ⟨rfl, ?_⟩
      repeat (first | exact hbw | refine Below.setCell ?_ (by simp) _)
  | false =>
    have hdb : digitZ ((t[0]'h0).toNat : Int) = false := by
      rcases hr with ⟨_, e⟩ | ⟨e, _⟩
      · rw [← e]; exact hd
      · simp [digitZ]; omega
    cases hL : letterZ (r : Int) with
    | true =>
      have e : r = (t[0]'h0).toNat := by
        rcases hr with ⟨_, e⟩ | ⟨_, e⟩
        · exact e
        · have : letterZ (r : Int) = false := by simp [letterZ]; omega
          rw [this] at hL
          cases hL
      have hn := nameAt_calls t hs h0 hdb (by rw [← e]; exact hL)
      have HR : Hid (∀ w, _) := hn
      clear hn hr hr' hdb e
      generalize wordAt t 0 = V at *
      go_enter Try.func9, Try.ntmps9
      go_wp2_with (first | (go_at_call 15; refine (digit20 _ _).mono ?_; rintro e w2 ⟨rfl, rfl⟩) | (go_at_call 17; refine (letter19 _ _).mono ?_; rintro e w2 ⟨rfl, rfl⟩))
      refine (HR.out _).mono ?_
      rintro e w2 ⟨rfl, hb⟩
      obtain ⟨eA, hbw⟩ := one_kept hb
      clear hb
      have a0 := cell_of_heap eA 0
      have a1 := cell_of_heap eA 1
      have a2 := cell_of_heap eA 2
      have z0 := frozen_of_heap eA 0
      have z1 := frozen_of_heap eA 1
      have z2 := frozen_of_heap eA 2
      simp at a0 a1 a2
      clear eA
      cases V with
      | error c =>
        simp only [restVal]
        go_wp2_with fail
        refine bodyPost_ret (v := restVal (.error c)) (by simp [restVal, results, Try.results9, go_sem, a0, a1, a2]) rfl ⟨rfl, ?_⟩
        repeat (first | exact hbw | refine Below.setCell ?_ (by simp) _)
      | ok de =>
        obtain ⟨d, e⟩ := de
        simp only [restVal]
        go_wp2_with fail
        refine bodyPost_ret (v := restVal (.ok (d, e))) (by simp [restVal, results, Try.results9, go_sem, a0, a1, a2]) rfl ⟨rfl, ?_⟩
        repeat (first | exact hbw | refine Below.setCell ?_ (by simp) _)
    | false =>
      have hLb : letterZ ((t[0]'h0).toNat : Int) = false := by
        rcases hr with ⟨_, e⟩ | ⟨e, _⟩
        · rw [← e]; exact hL
        · simp [letterZ]; omega
      have hn := signSize_calls t r hr'
      obtain ⟨V, hV⟩ : ∃ V, wordAt t 0 = V := ⟨_, rfl⟩
      rw [hV]
      unfold wordAt at hV
      rw [bz_at t h0, if_neg (by rw [hdb]; simp), if_neg (by rw [hLb]; simp)] at hV
      dsimp only at hV
      have hext : t.extract 0 t.size = t := by simp
      rw [hext] at hV
      have hfit := signOf_fit t
      have hgs := signOf_size t
      generalize signOf t = g at *
      have HR : Hid (∀ w, _) := hn
      have HF : Hid (g.size ≤ t.size ∧ t.extract 0 g.size = g) := hfit
      clear hn hr hr' hdb hLb hfit
      go_enter Try.func9, Try.ntmps9
      go_wp2_with (first | (go_at_call 15; refine (digit20 _ _).mono ?_; rintro e w2 ⟨rfl, rfl⟩) | (go_at_call 17; refine (letter19 _ _).mono ?_; rintro e w2 ⟨rfl, rfl⟩))
      refine (HR.out _).mono ?_
      rintro e w2 ⟨rfl, hb⟩
      obtain ⟨eA, hbw⟩ := one_kept hb
      clear hb
      by_cases hg : g.size = 0
      · rw [if_pos hg] at hV
        subst hV
        have hgb : ((g.size : Int) == 0) = true := by rw [hg]; rfl
        clear hg
        have a0 := cell_of_heap eA 0
        have a1 := cell_of_heap eA 1
        have a2 := cell_of_heap eA 2
        have z0 := frozen_of_heap eA 0
        have z1 := frozen_of_heap eA 1
        have z2 := frozen_of_heap eA 2
        simp at a0 a1 a2
        clear eA
        go_wp2_with fail
        refine bodyPost_ret (v := restVal (.error 2)) (by simp [restVal, results, Try.results9, go_sem, a0, a1, a2]) rfl ⟨rfl, ?_⟩
        repeat (first | exact hbw | refine Below.setCell ?_ (by simp) _)
      · rw [if_neg hg] at hV
        subst hV
        have hgb : ((g.size : Int) == 0) = false := by rw [beq_eq_false_iff_ne]; omega
        clear hg
        go_wp2_with fail
        refine (wordOf_calls _ _ _ HF.out.1 hs _).mono ?_
        rintro e w3 ⟨rfl, hb3⟩
        replace eA := (hb3.block w.heap.size (Array.getElem?_eq_some_iff.1 eA).1).trans eA
        replace hbw := hbw.trans (hb3.mono hbw.size)
        rw [HF.out.2]
        clear hb3
        have a0 := cell_of_heap eA 0
        have a1 := cell_of_heap eA 1
        have a2 := cell_of_heap eA 2
        have z0 := frozen_of_heap eA 0
        have z1 := frozen_of_heap eA 1
        have z2 := frozen_of_heap eA 2
        simp at a0 a1 a2
        clear eA
        go_wp2_with fail
        refine bodyPost_ret (v := restVal (.ok (⟨4, g, 0⟩, 0 + g.size))) (by simp [restVal, results, Try.results9, go_sem, a0, a1, a2]) rfl ⟨rfl, ?_⟩
        repeat (first | exact hbw | refine Below.setCell ?_ (by simp) _)
end Go.Proofs.Ytnhofdngmbnlkaa

/- The word at a place of a text is the first word of the rest from there on; it is ASCII throughout. -/
namespace Go.Proofs.Ytnhofdngmbnlkaa
open Go.RowKit

theorem rest_size {s : ByteArray} {p : Nat} : (s.extract p s.size).size = s.size - p := by
  rw [ByteArray.size_extract]
  omega

theorem bz_rest {s : ByteArray} {p j : Nat} : bz (s.extract p s.size) j = bz s (p + j) := by
  unfold bz
  by_cases h : p + j < s.size
  · rw [dif_pos h, dif_pos (by rw [rest_size]; omega), ByteArray.getElem_extract]
  · rw [dif_neg h, dif_neg (by rw [rest_size]; omega)]

theorem run_rest {s : ByteArray} {l : Bool} {p : Nat} (hp : p ≤ s.size) : p + runTo (s.extract p s.size) l 0 = runTo s l p := by
  obtain ⟨h1, h2, h3, h4⟩ := isRun_runTo (s.extract p s.size) l (p := 0) (by omega)
  refine IsRun.eq ⟨by omega, by rw [rest_size] at h2; omega, fun j hj1 hj2 => ?_, fun h => ?_⟩
  · have := h3 (j - p) (by omega) (by omega)
    rw [bz_rest, show p + (j - p) = j by omega] at this
    exact this
  · have := h4 (by rw [rest_size]; omega)
    rwa [bz_rest] at this

theorem cut_rest {s : ByteArray} {p e : Nat} (h : p + e ≤ s.size) : (s.extract p s.size).extract 0 e = s.extract p (p + e) := by
  rw [ByteArray.extract_extract, Nat.add_zero, Nat.min_eq_left h]

/-- A word without its place. -/
def unplaced (p : Nat) : Except Int (Wd × Nat) → Except Int (Wd × Nat)
  | .error c => .error c
  | .ok (d, e) => .ok (⟨d.kind, d.text, 0⟩, e - p)

theorem wordAt_rest {s : ByteArray} {p : Nat} (hp : p < s.size) : wordAt (s.extract p s.size) 0 = unplaced p (wordAt s p) := by
  unfold wordAt
  have hb : bz (s.extract p s.size) 0 = bz s p := by rw [bz_rest, Nat.add_zero]
  have hself : (s.extract p s.size).extract 0 (s.extract p s.size).size = s.extract p s.size := by
    rw [rest_size, cut_rest (by omega), show p + (s.size - p) = s.size by omega]
  rw [hb, hself]
  by_cases hd : digitZ (bz s p) = true
  · have hr := run_rest (s := s) (l := false) (p := p) (by omega)
    obtain ⟨h1, h2, _, _⟩ := isRun_runTo s false (p := p) (by omega)
    rw [if_pos hd, if_pos hd]
    dsimp only
    have e : runTo (s.extract p s.size) false 0 = runTo s false p - p := by omega
    rw [e, Nat.sub_zero]
    split
    · rfl
    · show _ = Except.ok _
      rw [cut_rest (by omega), show p + (runTo s false p - p) = runTo s false p by omega]
  · rw [if_neg hd, if_neg hd]
    by_cases hL : letterZ (bz s p) = true
    · have hr := run_rest (s := s) (l := true) (p := p) (by omega)
      obtain ⟨h1, h2, _, _⟩ := isRun_runTo s true (p := p) (by omega)
      rw [if_pos hL, if_pos hL]
      dsimp only
      have e : runTo (s.extract p s.size) true 0 = runTo s true p - p := by omega
      rw [e, Nat.sub_zero]
      split
      · rfl
      · show _ = Except.ok _
        rw [cut_rest (by omega), show p + (runTo s true p - p) = runTo s true p by omega]
    · rw [if_neg hL, if_neg hL]
      dsimp only
      split
      · rfl
      · show _ = Except.ok _
        rw [show p + (signOf (s.extract p s.size)).size - p = 0 + (signOf (s.extract p s.size)).size by omega]

theorem restVal_unplaced (p : Nat) : ∀ x : Except Int (Wd × Nat), restVal (unplaced p x) = restVal x
  | .error _ => rfl
  | .ok (_, _) => rfl

theorem wordAt_text {s : ByteArray} {p : Nat} {d : Wd} {e : Nat} (hp : p < s.size) (h : wordAt s p = .ok (d, e)) : e = p + d.text.size ∧ d.at_ = p ∧ e ≤ s.size := by
  unfold wordAt at h
  by_cases hd : digitZ (bz s p) = true
  · obtain ⟨h1, h2, _, _⟩ := isRun_runTo s false (p := p) (by omega)
    rw [if_pos hd] at h
    dsimp only at h
    split at h
    · cases h
    · cases h
      refine ⟨?_, rfl, h2⟩
      rw [ByteArray.size_extract]
      omega
  · rw [if_neg hd] at h
    by_cases hL : letterZ (bz s p) = true
    · obtain ⟨h1, h2, _, _⟩ := isRun_runTo s true (p := p) (by omega)
      rw [if_pos hL] at h
      dsimp only at h
      split at h
      · cases h
      · cases h
        refine ⟨?_, rfl, h2⟩
        rw [ByteArray.size_extract]
        omega
    · rw [if_neg hL] at h
      dsimp only at h
      have hf := (signOf_fit (s.extract p s.size)).1
      rw [rest_size] at hf
      split at h
      · cases h
      · cases h
        exact ⟨rfl, rfl, by omega⟩

theorem okb_ascii {l : Bool} {x : Int} (h : okb l x = true) : x < 128 := by
  cases l <;> simp [okb, digitZ, letterZ] at h <;> omega

theorem sign_ascii : ∀ x ∈ signStrs, ∀ i, i < 2 → ∀ h : i < x.size, (x[i]'h).toNat < 128 := by decide

theorem at_eq {t : ByteArray} {a b : Nat} (h : a = b) (ha : a < t.size) (hb : b < t.size) : t[a]'ha = t[b]'hb := by
  subst h
  rfl

theorem wordAt_ascii {s : ByteArray} {p : Nat} {d : Wd} {e : Nat} (hp : p < s.size) (h : wordAt s p = .ok (d, e)) : ∀ j, p ≤ j → j < e → bz s j < 128 := by
  unfold wordAt at h
  by_cases hd : digitZ (bz s p) = true
  · obtain ⟨h1, h2, h3, _⟩ := isRun_runTo s false (p := p) (by omega)
    rw [if_pos hd] at h
    dsimp only at h
    split at h
    · cases h
    · cases h
      exact fun j hj1 hj2 => okb_ascii (h3 j hj1 hj2)
  · rw [if_neg hd] at h
    by_cases hL : letterZ (bz s p) = true
    · obtain ⟨h1, h2, h3, _⟩ := isRun_runTo s true (p := p) (by omega)
      rw [if_pos hL] at h
      dsimp only at h
      split at h
      · cases h
      · cases h
        exact fun j hj1 hj2 => okb_ascii (h3 j hj1 hj2)
    · rw [if_neg hL] at h
      dsimp only at h
      split at h
      · cases h
      · rename_i hg
        cases h
        intro j hj1 hj2
        obtain ⟨hf1, hf2⟩ := signOf_fit (s.extract p s.size)
        have hmem : signOf (s.extract p s.size) ∈ signStrs := by
          unfold signOf at hg ⊢
          cases hfi : signStrs.find? (signHit (s.extract p s.size)) with
          | none => rw [hfi] at hg; exact absurd rfl hg
          | some g => exact List.mem_of_find?_eq_some hfi
        have hs2 := signOf_size (s.extract p s.size)
        generalize hG : signOf (s.extract p s.size) = g at *
        have hi : j - p < g.size := by omega
        have ha := sign_ascii g hmem (j - p) (by omega) hi
        have e1 : bz s j = bz (s.extract p s.size) (j - p) := by rw [bz_rest, show p + (j - p) = j by omega]
        rw [e1]
        clear e1
        generalize s.extract p s.size = t at *
        have hi2 : j - p < t.size := by omega
        have e3 : g[j - p]'hi = (t.extract 0 g.size)[j - p]'(by rw [hf2]; exact hi) := by
          congr 1
          exact hf2.symm
        have e4 : (t.extract 0 g.size)[j - p]'(by rw [hf2]; exact hi) = t[j - p]'hi2 := by
          rw [ByteArray.getElem_extract]
          exact at_eq (by omega) _ _
        rw [bz_at t hi2, ← e4, ← e3]
        omega
end Go.Proofs.Ytnhofdngmbnlkaa

/- Words put together with blanks between are the same words. -/
namespace Go.Proofs.Ytnhofdngmbnlkaa
open Go.RowKit

theorem bytes_ext {a b : ByteArray} (hs : a.size = b.size) (h : ∀ i, i < a.size → bz a i = bz b i) : a = b := by
  apply ByteArray.ext
  apply Array.ext hs
  intro i h1 h2
  have h1' : i < a.size := h1
  have h2' : i < b.size := h2
  have e := h i h1'
  rw [bz_at a h1', bz_at b h2'] at e
  have e2 : (a[i]'h1').toNat = (b[i]'h2').toNat := by omega
  exact UInt8.toNat_inj.1 e2

theorem bz_cut {s : ByteArray} {p e j : Nat} (he : e ≤ s.size) (hj : p + j < e) : bz (s.extract p e) j = bz s (p + j) := by
  unfold bz
  rw [dif_pos (by rw [ByteArray.size_extract]; omega), dif_pos (by omega), ByteArray.getElem_extract]

theorem cut_size {s : ByteArray} {p e : Nat} (he : e ≤ s.size) : (s.extract p e).size = e - p := by
  rw [ByteArray.size_extract]
  omega

theorem hit_iff {t g : ByteArray} : signHit t g = true ↔ g.size ≤ t.size ∧ ∀ i, i < g.size → bz t i = bz g i := by
  unfold signHit
  rw [Bool.and_eq_true, decide_eq_true_eq]
  constructor
  · rintro ⟨h1, h2⟩
    rw [beq_iff_eq, ByteArray.toList_eq, ByteArray.toList_eq] at h2
    have e : t.extract 0 g.size = g := ByteArray.ext (Array.toList_inj.1 h2)
    refine ⟨h1, fun i hi => ?_⟩
    have e1 := bz_cut (s := t) (p := 0) (e := g.size) (j := i) h1 (by omega)
    rw [e, Nat.zero_add] at e1
    exact e1.symm
  · rintro ⟨h1, h2⟩
    refine ⟨h1, ?_⟩
    have e : t.extract 0 g.size = g := bytes_ext (by rw [cut_size h1]; omega) (fun i hi => by
      rw [cut_size h1] at hi
      rw [bz_cut h1 (by omega), Nat.zero_add]
      exact h2 i (by omega))
    rw [e]
    simp

theorem sign_sizes : ∀ x ∈ signStrs, (x.size = 1 ∨ x.size = 2) := by decide

theorem sign_second : ∀ x ∈ signStrs, x.size = 2 → bz x 1 ≠ 32 := by
  intro x hx
  simp only [signStrs, signBytes, List.map, List.mem_cons, List.not_mem_nil, or_false] at hx
  rcases hx with rfl | rfl | rfl | rfl | rfl | rfl | rfl | rfl | rfl | rfl | rfl | rfl | rfl | rfl <;> (intro h; first | (exfalso; revert h; decide) | decide)

theorem sign_getD {k : Nat} (hk : k < 14) : signStrs.getD k ByteArray.empty ∈ signStrs := by
  have hl : signStrs.length = 14 := rfl
  rw [List.getD, List.getElem?_eq_getElem (show k < signStrs.length by omega)]
  exact List.getElem_mem _

/-- The sign is the same where the text begins with it and a blank follows. -/
theorem sign_again {t t' : ByteArray} (h0 : (signOf t).size ≠ 0) (hl : (signOf t).size < t'.size) (he : ∀ i, i < (signOf t).size → bz t' i = bz t i) (hb : bz t' (signOf t).size = 32) : signOf t' = signOf t := by
  obtain ⟨hf1, hf2⟩ := signOf_fit t
  cases hfi : signStrs.find? (signHit t) with
  | none =>
    exfalso
    apply h0
    unfold signOf
    rw [hfi]
    rfl
  | some g =>
    have hg : signOf t = g := by unfold signOf; rw [hfi]; rfl
    rw [hg] at h0 hl he hb ⊢
    rw [List.find?_eq_some_iff_getElem] at hfi
    obtain ⟨hh, k, hk, hgk, hno⟩ := hfi
    have hl14 : signStrs.length = 14 := rfl
    have hD : ∀ j, j < 14 → ∀ hj : j < signStrs.length, signStrs.getD j ByteArray.empty = signStrs[j] := fun j _ hj => by simp [List.getD, List.getElem?_eq_getElem hj]
    have hmg : g ∈ signStrs := by rw [← hgk]; exact List.getElem_mem _
    have hg12 := sign_sizes g hmg
    have hth := hit_iff.1 hh
    refine signOf_hit (k := k) (by omega) (by rw [hD k (by omega) hk]; exact hgk) (hit_iff.2 ⟨by omega, fun i hi => by rw [he i hi]; exact hth.2 i hi⟩) (fun j hj => ?_)
    cases hc : signHit t' (signStrs.getD j ByteArray.empty) with
    | false => rfl
    | true =>
      exfalso
      have hm := sign_getD (k := j) (by omega)
      have hx := hno j hj
      rw [← hD j (by omega) (by omega)] at hx
      generalize signStrs.getD j ByteArray.empty = x at *
      obtain ⟨c1, c2⟩ := hit_iff.1 hc
      have hx12 := sign_sizes x hm
      have hxt : signHit t x = true := by
        refine hit_iff.2 ?_
        by_cases hle : x.size ≤ g.size
        · exact ⟨by omega, fun i hi => by rw [← he i (by omega)]; exact c2 i hi⟩
        · exfalso
          have e1 : x.size = 2 := by omega
          have e2 : g.size = 1 := by omega
          have := c2 1 (by omega)
          rw [e2] at hb
          rw [hb] at this
          exact sign_second x hm e1 this.symm
      rw [hxt] at hx
      cases hx

/-- A word that is read somewhere is read wherever it stands with a blank behind. -/
theorem word_again {s t : ByteArray} {p q : Nat} {d : Wd} {e : Nat} (hp : p < s.size) (h : wordAt s p = .ok (d, e)) (hq : q + d.text.size < t.size) (hb : ∀ i, i < d.text.size → bz t (q + i) = bz s (p + i)) (hx : bz t (q + d.text.size) = 32) :
    wordAt t q = .ok (⟨d.kind, d.text, q⟩, q + d.text.size) := by
  obtain ⟨he, -, hes⟩ := wordAt_text hp h
  have hpe := (wordAt_end hp h).1
  have hn : 0 < d.text.size := by omega
  have hb0 : bz t q = bz s p := by have := hb 0 hn; simpa using this
  have okx : ∀ l, okb l (bz t (q + d.text.size)) = false := fun l => by rw [hx]; cases l <;> decide
  have hrun : ∀ l, IsRun s l p e → IsRun t l q (q + d.text.size) := fun l ⟨_, _, r3, _⟩ => ⟨by omega, by omega, fun j h1 h2 => by
    have := hb (j - q) (by omega)
    rw [show q + (j - q) = j by omega] at this
    rw [this]
    exact r3 _ (by omega) (by omega), fun _ => okx l⟩
  have hcut : t.extract q (q + d.text.size) = s.extract p e := bytes_ext (by rw [cut_size (by omega), cut_size hes]; omega) (fun i hi => by
    rw [cut_size (by omega)] at hi
    rw [bz_cut (by omega) (by omega), bz_cut hes (by omega)]
    exact hb i (by omega))
  unfold wordAt at h ⊢
  rw [hb0]
  by_cases hd : digitZ (bz s p) = true
  · have hr := isRun_runTo s false (p := p) (by omega)
    rw [if_pos hd] at h ⊢
    dsimp only at h ⊢
    split at h
    · cases h
    · rename_i hc
      cases h
      have e1 := (hrun false hr).eq
      rw [← e1, hcut, if_neg (by omega)]
  · rw [if_neg hd] at h ⊢
    by_cases hL : letterZ (bz s p) = true
    · have hr := isRun_runTo s true (p := p) (by omega)
      rw [if_pos hL] at h ⊢
      dsimp only at h ⊢
      split at h
      · cases h
      · rename_i hc
        cases h
        have e1 := (hrun true hr).eq
        rw [← e1, hcut, if_neg (by omega)]
    · rw [if_neg hL] at h ⊢
      dsimp only at h ⊢
      split at h
      · cases h
      · rename_i hc
        cases h
        dsimp only at hb hx hq hn ⊢
        have ha := sign_again (t := s.extract p s.size) (t' := t.extract q t.size) hc (by rw [rest_size]; omega) (fun i hi => by rw [bz_rest, bz_rest]; exact hb i hi) (by rw [bz_rest]; exact hx)
        rw [ha, if_neg hc]

/-- A word that stands in a text. -/
structure InS (s : ByteArray) (d : Wd) : Prop where
  lt : d.at_ < s.size
  nb : blankZ (bz s d.at_) = false
  ok : wordAt s d.at_ = .ok (d, d.at_ + d.text.size)

theorem lexGo_in (s : ByteArray) : ∀ (f p : Nat) (ws : List Wd), (∀ d ∈ ws, InS s d) → ∀ d ∈ (lexGo s f p ws).1, InS s d
  | 0, _, _, h => h
  | f + 1, p, ws, h => by
    unfold lexGo
    split
    · rename_i hp
      split
      · exact lexGo_in s f (p + 1) ws h
      · rename_i hnb
        split
        · intro d hd
          cases hd
        · rename_i d e hw
          obtain ⟨h1, h2, h3⟩ := wordAt_text hp hw
          refine lexGo_in s f e (ws ++ [d]) (fun x hx => ?_)
          rcases List.mem_append.1 hx with hx | hx
          · exact h x hx
          · simp at hx
            subst hx
            refine ⟨by omega, by rw [h2]; simpa using hnb, by rw [h2, ← h1]; exact hw⟩
    · exact h

theorem lexAll_in (s : ByteArray) : ∀ d ∈ (lexAll s).1, InS s d := by
  unfold lexAll
  split
  · intro d hd
    cases hd
  · exact lexGo_in s _ _ _ (fun d hd => by cases hd)

theorem InS.text {s : ByteArray} {d : Wd} (h : InS s d) : d.at_ + d.text.size ≤ s.size ∧ 0 < d.text.size ∧ d.text.size ≤ 9 := by
  obtain ⟨-, -, h3⟩ := wordAt_text h.lt h.ok
  have := wordAt_end h.lt h.ok
  omega

/-- Its bytes are those of the text. -/
theorem InS.cut {s : ByteArray} {d : Wd} (h : InS s d) : s.extract d.at_ (d.at_ + d.text.size) = d.text := by
  have hk := h.ok
  unfold wordAt at hk
  by_cases hd : digitZ (bz s d.at_) = true
  · rw [if_pos hd] at hk
    dsimp only at hk
    split at hk
    · cases hk
    · injection hk with hk
      injection hk with h1 h2
      have e := congrArg Wd.text h1
      dsimp only at e
      rw [← h2]
      exact e
  · rw [if_neg hd] at hk
    by_cases hL : letterZ (bz s d.at_) = true
    · rw [if_pos hL] at hk
      dsimp only at hk
      split at hk
      · cases hk
      · injection hk with hk
        injection hk with h1 h2
        have e := congrArg Wd.text h1
        dsimp only at e
        rw [← h2]
        exact e
    · rw [if_neg hL] at hk
      dsimp only at hk
      split at hk
      · cases hk
      · injection hk with hk
        injection hk with h1 h2
        have e := congrArg Wd.text h1
        dsimp only at e
        obtain ⟨hf1, hf2⟩ := signOf_fit (s.extract d.at_ s.size)
        rw [e] at hf1 hf2
        rw [rest_size] at hf1
        rw [cut_rest (by have := h.lt; omega)] at hf2
        exact hf2

def blankB : ByteArray := ⟨#[32]⟩

/-- Words with a blank behind each. -/
def joinB : List Wd → ByteArray
  | [] => ⟨#[]⟩
  | d :: r => d.text ++ (blankB ++ joinB r)

/-- The words as they stand there. -/
def placed : Nat → List Wd → List Wd
  | _, [] => []
  | p, d :: r => ⟨d.kind, d.text, p⟩ :: placed (p + d.text.size + 1) r

theorem placed_length : ∀ (p : Nat) (ws : List Wd), (placed p ws).length = ws.length
  | _, [] => rfl
  | p, d :: r => by simp [placed, placed_length _ r]

theorem placed_at : ∀ (p : Nat) (ws : List Wd) (k : Nat), k < ws.length → ((placed p ws).getD k default).kind = (ws.getD k default).kind ∧ ((placed p ws).getD k default).text = (ws.getD k default).text
  | _, [], _, h => by cases h
  | p, d :: r, 0, _ => ⟨rfl, rfl⟩
  | p, d :: r, k + 1, h => by
    have := placed_at (p + d.text.size + 1) r k (by simpa using h)
    simpa [placed] using this

theorem bz_app_left {a b : ByteArray} {i : Nat} (h : i < a.size) : bz (a ++ b) i = bz a i := by
  have hs : (a ++ b).size = a.size + b.size := ByteArray.size_append
  rw [bz_at _ (by omega), bz_at a h, ByteArray.getElem_append_left h]

theorem bz_app_right {a b : ByteArray} {i : Nat} (h : i < b.size) : bz (a ++ b) (a.size + i) = bz b i := by
  have hs : (a ++ b).size = a.size + b.size := ByteArray.size_append
  rw [bz_at _ (by omega), bz_at b h, ByteArray.getElem_append_right (by omega)]
  congr 2
  exact at_eq (by omega) _ _

theorem join_lex (s J : ByteArray) : ∀ (r : List Wd) (p f : Nat) (acc : List Wd), (∀ d ∈ r, InS s d) → p + (joinB r).size = J.size → (∀ i, i < (joinB r).size → bz J (p + i) = bz (joinB r) i) → (joinB r).size ≤ f → lexGo J f p acc = (acc ++ placed p r, 0, 0)
  | [], p, f, acc, _, hs, _, _ => by
    have e : (joinB []).size = 0 := rfl
    rw [lexGo_end (by omega)]
    simp [placed]
  | d :: r, p, f, acc, hin, hs, hb, hf => by
    have hd := hin d (by simp)
    obtain ⟨t1, t2, t3⟩ := hd.text
    have hsz : (joinB (d :: r)).size = d.text.size + (1 + (joinB r).size) := by
      show (d.text ++ (blankB ++ joinB r)).size = _
      rw [ByteArray.size_append, ByteArray.size_append]
      rfl
    have b1 : ∀ i, i < d.text.size → bz J (p + i) = bz d.text i := fun i hi => by
      rw [hb i (by omega)]
      exact bz_app_left hi
    have b2 : bz J (p + d.text.size) = 32 := by
      rw [hb d.text.size (by omega)]
      have e := bz_app_right (a := d.text) (b := blankB ++ joinB r) (i := 0) (by rw [ByteArray.size_append]; show 0 < 1 + _; omega)
      rw [Nat.add_zero] at e
      show bz (d.text ++ (blankB ++ joinB r)) d.text.size = 32
      rw [e, bz_app_left (by decide)]
      decide
    have b3 : ∀ i, i < (joinB r).size → bz J (p + d.text.size + 1 + i) = bz (joinB r) i := fun i hi => by
      have e := hb (d.text.size + (1 + i)) (by omega)
      rw [show p + (d.text.size + (1 + i)) = p + d.text.size + 1 + i by omega] at e
      rw [e]
      show bz (d.text ++ (blankB ++ joinB r)) (d.text.size + (1 + i)) = _
      rw [bz_app_right (by rw [ByteArray.size_append]; show 1 + i < 1 + _; omega)]
      have e2 := bz_app_right (a := blankB) (b := joinB r) (i := i) hi
      exact e2
    obtain ⟨f, rfl⟩ : ∃ f', f = f' + 2 := ⟨f - 2, by omega⟩
    have hcut := hd.cut
    have bs : ∀ i, i < d.text.size → bz J (p + i) = bz s (d.at_ + i) := fun i hi => by
      rw [b1 i hi]
      have e := bz_cut (s := s) (p := d.at_) (e := d.at_ + d.text.size) (j := i) t1 (by omega)
      rw [hcut] at e
      exact e
    have hw := word_again (t := J) (q := p) hd.lt hd.ok (by omega) bs b2
    have hnb : ¬ blankZ (bz J p) = true := by
      have := bs 0 t2
      simp only [Nat.add_zero] at this
      rw [this, hd.nb]
      simp
    rw [lexGo_word (by omega) hnb hw, lexGo_blank (by omega) (by rw [b2]; decide), join_lex s J r (p + d.text.size + 1) f _ (fun x hx => hin x (by simp [hx])) (by omega) b3 (by omega)]
    simp [placed]

/-- What is put together with blanks is the same words. -/
theorem lex_join (s : ByteArray) (h : (joinB (lexAll s).1).size ≤ 1500) : lexAll (joinB (lexAll s).1) = (placed 0 (lexAll s).1, 0, 0) := by
  have := join_lex s (joinB (lexAll s).1) (lexAll s).1 0 (joinB (lexAll s).1).size [] (lexAll_in s) (by omega) (fun i _ => by rw [Nat.zero_add]) (Nat.le_refl _)
  unfold lexAll at *
  rw [if_neg (by omega)]
  simpa using this

end Go.Proofs.Ytnhofdngmbnlkaa

/- The specification's cutting of a text into words is the plain one; its list of words lies in memory of its own. -/
namespace Go.Proofs.Ytnhofdngmbnlkaa
open Go.RowKit

theorem info_word : (Try.prog.info? 30).map (fun i => (i.zero, i.size, i.bytes)) = some (some (.agg #[.int .i64 0, .string ⟨#[]⟩, .int .i64 0]), 3, 32) := by kernel_rfl

theorem cell_three_new (w : World) (n : Nat) (hn : n = w.heap.size) (a b c : Value) (t : TypeId) : ∀ j u, [a, b, c][j]? = some u → (w.alloc (.cells #[a, b, c] t)).cell? ((⟨n, 0, none⟩ : Addr).add j) = some u := by
  subst hn
  intro j u hj
  match j, hj with
  | 0, hj => simp at hj; subst hj; simp [Addr.add]
  | 1, hj => simp at hj; subst hj; simp [Addr.add]
  | 2, hj => simp at hj; subst hj; simp [Addr.add]
  | j + 3, hj => simp at hj

theorem owns_setCell {w : World} {base : Nat} {e : TypeId} {size : Nat} {v : Value} {n : Nat} {xs : List Value} (h : w.ownsRow base e size v n xs) {a : Addr} (ha : a.block < base) (u : Value) : (w.setCell a u).ownsRow base e size v n xs := by
  refine h.kept (row := some a.block) ⟨rfl, rfl, rfl, by simp [World.setCell], fun k _ hk => Below.heap_setCell _ _ _ _ (fun e => hk (by rw [e]))⟩ (Or.inr (fun e => ?_))
  have := (h.lt _ e).1
  omega

theorem wordAt_code {s : ByteArray} {p : Nat} {c : Int} (h : wordAt s p = .error c) : c = 2 ∨ c = 3 ∨ c = 4 := by
  unfold wordAt at h
  split at h
  · dsimp only at h
    split at h
    · cases h; simp
    · cases h
  · split at h
    · dsimp only at h
      split at h
      · cases h; simp
      · cases h
    · dsimp only at h
      split at h
      · cases h; simp
      · cases h

/-- How a text's words and its fault are told, the words in memory from that block on. -/
def Told (B : Nat) (r : List Wd × Int × Nat) (v : Value) (e : Ending) (w' : World) : Prop :=
  e = .returned (.tuple #[v, .agg #[.int .i64 r.2.1, .int .i64 r.2.2]]) ∧ w'.ownsRow B 30 3 v r.1.length (flatW r.1)

set_option maxHeartbeats 1000000 in
set_option maxRecDepth 100000 in
theorem specWords_calls (s : ByteArray) (w : World) :
    Calls Try.prog 6 #[.string s] w fun e w' => (∃ v, Told (w.heap.size + 1) (lexAll s) v e w') ∧ Below w.heap.size w w' := by
  obtain ⟨R, hR⟩ : ∃ R, lexAll s = R := ⟨_, rfl⟩
  rw [hR]
  unfold lexAll at hR
  by_cases hbig : (1500 : Int) < s.size
  · rw [if_pos (by omega)] at hR
    subst hR
    go_enter Try.func6, Try.ntmps6
    go_wp2_with fail
    refine bodyPost_ret (v := .tuple #[.slice none 0 0, .agg #[.int .i64 1, .int .i64 0]]) (by simp [results, Try.results6, go_sem]) rfl ⟨⟨.slice none 0 0, rfl, World.ownsRow_nil _ _ _ _⟩, ?_⟩
    repeat (first | exact Below.refl _ _ | refine Below.alloc ?_ (by first | (simp; done) | (simp; omega)) _)
  rw [if_neg (by omega)] at hR
  have HR : Hid (lexGo s s.size 0 [] = R) := hR
  clear hR
  obtain ⟨i0, hi, hz0, hz1, hz2⟩ := info_parts info_word
  go_enter Try.func6, Try.ntmps6
  go_wp2_with fail
  go_loopw [4, 5] (fun o a wr => ∃ (p f : Nat) (ws : List Wd), a = .int .i64 p ∧ p ≤ 1509 ∧ s.size ≤ p + f ∧ ws.length ≤ p ∧ Hid (lexGo s f p ws = R) ∧ wr.ownsRow (w.heap.size + 1) 30 3 o ws.length (flatW ws) ∧
      wr.heap[w.heap.size]? = some (.cells #[.int .i64 0, .int .i64 0] 26) ∧ Below w.heap.size w wr) (fun _ a _ => s.size - (intOf a).toNat)
  case atStart => exact ⟨0, s.size, [], rfl, by omega, by omega, by simp, HR, World.ownsRow_nil _ _ _ _, (MapKept.heap_alloc w _).1, (Below.refl _ _).alloc (Nat.le_refl _) _⟩
  case round =>
    obtain ⟨p, f, ws, rfl, hp9, hfu, hwl, HE, hown, hfault, hnx⟩ := hrel
    clear HR
    have hBlt : w.heap.size < wr.heap.size := (Array.getElem?_eq_some_iff.1 hfault).1
    by_cases hp : p < s.size
    · obtain ⟨f, rfl⟩ : ∃ f', f = f' + 1 := ⟨f - 1, by omega⟩
      have hb := bz_at s hp
      cases hbl : blankZ ((s[p]'hp).toNat : Int) with
      | true =>
        have hE := HE.out
        rw [lexGo_blank hp (by rw [hb]; exact hbl)] at hE
        have HE' : Hid (lexGo s f (p + 1) ws = R) := hE
        clear HE hE hb
        cases h32 : (((s[p]'hp).toNat : Int) == 32) with
        | true =>
          clear hbl
          go_wp2_with fail
          exact ⟨⟨p + 1, f, ws, by simp, by omega, by omega, by omega, HE', hown, hfault, hnx⟩, by simp [intOf]; omega⟩
        | false =>
          have h10 : (((s[p]'hp).toNat : Int) == 10) = true := by simpa [blankZ, h32] using hbl
          clear hbl
          go_wp2_with fail
          exact ⟨⟨p + 1, f, ws, by simp, by omega, by omega, by omega, HE', hown, hfault, hnx⟩, by simp [intOf]; omega⟩
      | false =>
        have h32 : (((s[p]'hp).toNat : Int) == 32) = false := by
          cases h : (((s[p]'hp).toNat : Int) == 32) with
          | false => rfl
          | true => simp [blankZ, h] at hbl
        have h10 : (((s[p]'hp).toNat : Int) == 10) = false := by
          cases h : (((s[p]'hp).toNat : Int) == 10) with
          | false => rfl
          | true => simp [blankZ, h] at hbl
        have hnb : ¬ blankZ (bz s p) = true := by rw [hb, hbl]; simp
        have hword := word_calls s p hp (by omega)
        clear hbl hb
        cases hw : wordAt s p with
        | error c =>
          have hE := HE.out
          rw [lexGo_bad hp hnb hw] at hE
          rw [hw] at hword
          have HW : Hid (∀ w, _) := hword
          have hc := wordAt_code hw
          clear HE hw hnb hword hown
          subst hE
          go_wp2_with fail
          refine (HW.out _).mono ?_
          rintro e W1 ⟨rfl, hb1⟩
          have hf1 := (hb1.block w.heap.size hBlt).trans hfault
          have q0 := cell_of_heap hf1 0
          have q1 := cell_of_heap hf1 1
          have z0 := frozen_of_heap hf1 0
          have z1 := frozen_of_heap hf1 1
          simp at q0 q1
          have hnx1 := hnx.trans (hb1.mono hnx.size)
          clear HW hb1 hfault hnx hf1
          simp only [wordVal]
          have hBlt1 : w.heap.size < W1.heap.size := by
            have := World.block_lt_of_cell? W1 _ q0
            exact this
          have hcc : (c != 0) = true := by rcases hc with rfl | rfl | rfl <;> rfl
          go_wp2_with fail
          refine bodyPost_ret (v := .tuple #[.slice none 0 0, .agg #[.int .i64 c, .int .i64 p]]) (by simp [results, Try.results6, go_sem, q0, q1, hBlt1]) rfl ⟨⟨.slice none 0 0, rfl, World.ownsRow_nil _ _ _ _⟩, ?_⟩
          exact ((hnx1.setCell (by simp) _).setCell (by simp) _).alloc (by simp; omega) _
        | ok de =>
          obtain ⟨d, e⟩ := de
          have hE := HE.out
          rw [lexGo_word hp hnb hw] at hE
          have HE' : Hid (lexGo s f e (ws ++ [d]) = R) := hE
          rw [hw] at hword
          have HW : Hid (∀ w, _) := hword
          have hend := wordAt_end hp hw
          clear HE hw hnb hword hE
          go_wp2_with fail
          refine (HW.out _).mono ?_
          rintro e' W1 ⟨rfl, hb1⟩
          have hf1 := (hb1.block w.heap.size hBlt).trans hfault
          have hown1 := owns_below hown hb1
          have hnx1 := hnx.trans (hb1.mono hnx.size)
          have hBlt1 : w.heap.size < W1.heap.size := (Array.getElem?_eq_some_iff.1 hf1).1
          have Hf1 : Hid (W1.heap[w.heap.size]? = some (.cells #[.int .i64 0, .int .i64 0] 26)) := hf1
          clear HW hb1 hfault hnx hown hf1
          simp only [wordVal]
          go_wp2_with (first
            | (at_builtin; refine wpList_append_own _ rfl _ _ 24 rfl (w.heap.size + 1) 30 i0 (.agg #[.int .i64 0, .string ⟨#[]⟩, .int .i64 0]) 3 32 Try.underlying24 hi hz0 hz1 hz2 rfl (by decide) _ _ _ rfl ((hown1.alloc _).alloc _) ⟨W1.heap.size + 1, 0, none⟩ 1 1 [.int .i64 d.kind, .string d.text, .int .i64 d.at_] rfl rfl (cell_three_new _ _ (by simp) _ _ _ _) (fun x hx => by simp at hx; rcases hx with rfl | rfl | rfl <;> rfl) (by unfold maxLen; omega) (by omega) (by simp; omega) ?_
               intro v' w3 hown' hgrow3 hnil3
               have hit3 : Hid (w3.heap[w.heap.size]? = some (.cells #[.int .i64 0, .int .i64 0] 26)) := by
                 show w3.heap[w.heap.size]? = _
                 rw [hgrow3.block w.heap.size (by simp; omega) (fun h => by have := (hown1.lt _ h.symm).1; omega), Below.heap_alloc _ _ _ (by simp; omega), Below.heap_alloc _ _ _ hBlt1]
                 exact Hf1.out
               have hbw3 : Below w.heap.size w w3 := Below.grown ((hnx1.alloc (by omega) _).alloc (by simp; omega) _) hgrow3 (by simp; omega) (fun j hj => by have := (hown1.lt _ hj).1; omega)
               clear hgrow3 hnil3 Hf1 hown1 hnx1))
          refine ⟨⟨e, f, ws ++ [d], rfl, by omega, by omega, by simp; omega, HE', ?_, hit3.out, hbw3⟩, by simp [intOf]; omega⟩
          rw [flatW_append, List.length_append]
          exact hown'
    · have hE := HE.out
      rw [lexGo_end hp] at hE
      have q0 := cell_of_heap hfault 0
      have q1 := cell_of_heap hfault 1
      have z0 := frozen_of_heap hfault 0
      have z1 := frozen_of_heap hfault 1
      simp at q0 q1
      subst hE
      clear HE hfault
      go_wp2_with fail
      refine bodyPost_ret (v := .tuple #[_, .agg #[.int .i64 0, .int .i64 0]]) (by simp [results, Try.results6, go_sem, q0, q1]; rfl) rfl ⟨⟨_, rfl, ?_⟩, (hnx.setCell (by simp) _).setCell (by simp) _⟩
      exact owns_setCell (owns_setCell hown (by simp) _) (by simp) _
end Go.Proofs.Ytnhofdngmbnlkaa

/- Lists of words in memory: two that hold the same compare as alike; marks that are put into one are held by it. -/
namespace Go.Proofs.Ytnhofdngmbnlkaa
open Go.RowKit

/-- Block g is a row that begins with the cells of n words, told by their place. -/
def RowOf (w : World) (g n : Nat) (F : Nat → Value × Value × Value) : Prop :=
  ∃ N f, w.rowIs g 30 N f ∧ n * 3 ≤ N ∧ ∀ k, k < n → f (k * 3) = (F k).1 ∧ f (k * 3 + 1) = (F k).2.1 ∧ f (k * 3 + 2) = (F k).2.2

theorem RowOf.of_block {w w' : World} {g n : Nat} {F : Nat → Value × Value × Value} (h : RowOf w g n F) (e : w'.heap[g]? = w.heap[g]?) : RowOf w' g n F := by
  obtain ⟨N, f, hr, h1, h2⟩ := h
  exact ⟨N, f, hr.of_block e, h1, h2⟩

theorem RowOf.lt {w : World} {g n : Nat} {F : Nat → Value × Value × Value} (h : RowOf w g n F) : g < w.heap.size := by
  obtain ⟨N, f, hr, _⟩ := h
  exact hr.lt

def wordCells (ws : List Wd) (k : Nat) : Value × Value × Value := (.int .i64 (ws.getD k default).kind, .string (ws.getD k default).text, .int .i64 (ws.getD k default).at_)

/-- A slice of n words, in a row from block B on. -/
def WSliceOf (B : Nat) (w : World) (v : Value) (n : Nat) (F : Nat → Value × Value × Value) : Prop :=
  ∃ ad cap, v = .slice ad n cap ∧ (n = 0 ∨ ∃ g, ad = some ⟨g, 0, none⟩ ∧ B ≤ g ∧ RowOf w g n F)

theorem flatW_at : ∀ (ws : List Wd) (k : Nat), k < ws.length → (flatW ws)[k * 3]? = some (wordCells ws k).1 ∧ (flatW ws)[k * 3 + 1]? = some (wordCells ws k).2.1 ∧ (flatW ws)[k * 3 + 2]? = some (wordCells ws k).2.2
  | [], k, h => by simp at h
  | d :: r, 0, _ => by simp [flatW, wordCells]
  | d :: r, k + 1, h => by
    obtain ⟨h1, h2, h3⟩ := flatW_at r k (by simpa using h)
    have e : wordCells (d :: r) (k + 1) = wordCells r k := by simp [wordCells]
    rw [e]
    refine ⟨?_, ?_, ?_⟩
    · rw [show (k + 1) * 3 = k * 3 + 3 by omega]
      simpa [flatW] using h1
    · rw [show (k + 1) * 3 + 1 = (k * 3 + 1) + 3 by omega]
      simpa [flatW] using h2
    · rw [show (k + 1) * 3 + 2 = (k * 3 + 2) + 3 by omega]
      simpa [flatW] using h3

theorem slice_of_owns {B : Nat} {w : World} {v : Value} {ws : List Wd} (h : w.ownsRow B 30 3 v ws.length (flatW ws)) : WSliceOf B w v ws.length (wordCells ws) := by
  rcases h.2 with ⟨rfl, hn⟩ | ⟨g, cap, cur, rfl, hB, hg, hnc, hcm, hsz, htake⟩
  · exact ⟨none, 0, by rw [hn], Or.inl hn⟩
  · refine ⟨_, cap, rfl, Or.inr ⟨g, rfl, hB, cur.size, fun i => cur.getD i undef, ⟨cur, hg, rfl, fun i hi => by simp [hi]⟩, by omega, fun k hk => ?_⟩⟩
    obtain ⟨h1, h2, h3⟩ := flatW_at ws k hk
    rw [← htake] at h1 h2 h3
    rw [List.getElem?_take_of_lt (by omega), Array.getElem?_toList] at h1 h2 h3
    simp [Array.getD_eq_getD_getElem?, h1, h2, h3]

theorem WSliceOf.below {B : Nat} {w w' : World} {v : Value} {n : Nat} {F : Nat → Value × Value × Value} (h : WSliceOf B w v n F) (hb : Below w.heap.size w w') : WSliceOf B w' v n F := by
  obtain ⟨ad, cap, rfl, h⟩ := h
  refine ⟨ad, cap, rfl, h.imp id ?_⟩
  rintro ⟨g, rfl, hB, hr⟩
  exact ⟨g, rfl, hB, hr.of_block (hb.block g hr.lt)⟩

def dig (j : Nat) : ByteArray := ⟨#[UInt8.ofNat (48 + j % 10)]⟩

theorem dig_run (j : Nat) (w : World) : (convert 22 9 (.slice (some ⟨w.heap.size, 0, none⟩) 1 1)).run Try.prog (w.alloc (.cells #[.int .u8 (48 + (j : Int) % 10)] 5)) = .ok (.string (dig j)) (w.alloc (.cells #[.int .u8 (48 + (j : Int) % 10)] 5)) := by
  have h := run_convert_bytes_back (P := Try.prog) (w.alloc (.cells #[.int .u8 (48 + (j : Int) % 10)] 5)) 22 9 5 ⟨w.heap.size, 0, none⟩ 1 [UInt8.ofNat (48 + j % 10)] Try.underlying22 Try.underlying5 Try.underlying9 (fun i hi => by
    have h0 : i = 0 := by simpa using hi
    subst h0
    simp [Addr.add]
    omega)
  exact h

/-- The digits of a mark, put ahead one by one. -/
def markGo : Nat → Nat → ByteArray → ByteArray
  | 0, _, out => out
  | f + 1, j, out => if j = 0 then out else markGo f (j / 10) (dig j ++ out)

def markOf (k : Nat) : ByteArray := if k = 0 then ⟨#[109, 48]⟩ else ⟨#[109]⟩ ++ markGo k k ⟨#[]⟩

/-- The marks of a word, counted from a number on. -/
def marks (x : Int) : Value × Value × Value := (.int .i64 x, .string (markOf (x + 1).toNat), .int .i64 (x + 1 + 1))

theorem grown_set {w w' : World} {g : Nat} (h : w.grownBy w' (some g)) (i : Nat) (v : Value) : w.grownBy (w'.setCell ⟨g, i, none⟩ v) (some g) :=
  ⟨h.os, h.tape, h.output, by simpa [World.setCell] using h.size, fun k hk hne => (Below.heap_setCell _ _ _ _ (fun e => hne (by rw [e]))).trans (h.block k hk hne)⟩

theorem grown_below {w w' w'' : World} {g : Nat} (h : w.grownBy w' (some g)) (hb : Below w'.heap.size w' w'') : w.grownBy w'' (some g) :=
  ⟨hb.os.trans h.os, hb.tape.trans h.tape, hb.output.trans h.output, Nat.le_trans h.size hb.size, fun k hk hne => (hb.block k (Nat.lt_of_lt_of_le hk h.size)).trans (h.block k hk hne)⟩

theorem grown_refl (w : World) (row : Option Nat) : w.grownBy w row := ⟨rfl, rfl, rfl, Nat.le_refl _, fun _ _ _ => rfl⟩

/-- One word more is marked. -/
theorem mark_step {w1 : World} {g t N k : Nat} {f : Nat → Value} {a b c : Value} (h : (w1).rowIs g t N f) :
    ∃ f', ((w1.setCell ⟨g, k * 3 + 1, none⟩ b).setCell ⟨g, k * 3 + 2, none⟩ c).rowIs g t N f' ∧ (f (k * 3) = a → f' (k * 3) = a) ∧ f' (k * 3 + 1) = b ∧ f' (k * 3 + 2) = c ∧ ∀ i, i < k * 3 → f' i = f i := by
  refine ⟨_, (h.set _ _).set _ _, fun e => ?_, ?_, ?_, fun i hi => ?_⟩
  · rw [if_neg (by omega), if_neg (by omega)]
    exact e
  · rw [if_neg (by omega), if_pos rfl]
  · rw [if_pos rfl]
  · rw [if_neg (by omega), if_neg (by omega)]

end Go.Proofs.Ytnhofdngmbnlkaa

/- The program's cutting of a text into words is the plain one; its list of words lies in memory of its own. -/
namespace Go.Proofs.Ytnhofdngmbnlkaa
open Go.RowKit

theorem owns_iterAt {w : World} {base : Nat} {e : TypeId} {size : Nat} {v : Value} {n : Nat} {xs : List Value} (h : w.ownsRow base e size v n xs) {k : Nat} (hk : k < base) (s : ByteArray) (p : Nat) : (w.iterAt k s p).ownsRow base e size v n xs := by
  refine h.kept (row := some k) ⟨rfl, rfl, rfl, by rw [Lib.iterAt_size]; exact Nat.le_refl _, fun j _ hj => Lib.iterAt_other _ _ _ _ _ (fun e => hj (by rw [e]))⟩ (Or.inr (fun e => ?_))
  have := (h.lt _ e).1
  omega

theorem blank_high {x : Int} (h : 128 ≤ x) : (x == 32) = false ∧ (x == 10) = false := by
  constructor <;> rw [beq_eq_false_iff_ne] <;> omega

set_option maxHeartbeats 2000000 in
set_option maxRecDepth 100000 in
theorem implWords_calls (s : ByteArray) (w : World) :
    Calls Try.prog 5 #[.string s] w fun e w' => (∃ v, Told (w.heap.size + 2) (lexAll s) v e w') ∧ Below w.heap.size w w' := by
  obtain ⟨R, hR⟩ : ∃ R, lexAll s = R := ⟨_, rfl⟩
  rw [hR]
  unfold lexAll at hR
  by_cases hbig : (1500 : Int) < s.size
  · rw [if_pos (by omega)] at hR
    subst hR
    go_enter Try.func5, Try.ntmps5
    go_wp2_with fail
    refine bodyPost_ret (v := .tuple #[.slice none 0 0, .agg #[.int .i64 1, .int .i64 0]]) (by simp [results, Try.results5, go_sem]) rfl ⟨⟨.slice none 0 0, rfl, World.ownsRow_nil _ _ _ _⟩, ?_⟩
    repeat (first | exact Below.refl _ _ | refine Below.alloc ?_ (by first | (simp; done) | (simp; omega)) _)
  rw [if_neg (by omega)] at hR
  have HR : Hid (lexGo s s.size 0 [] = R) := hR
  clear hR
  obtain ⟨i0, hi, hz0, hz1, hz2⟩ := info_parts info_word
  go_enter Try.func5, Try.ntmps5
  go_wp2_with fail
  go_loopg [4, 5] s.size (fun g o b wx => ∃ (pos bh f : Nat) (ws : List Wd), b = .int .i64 bh ∧ wx.heap[w.heap.size + 1]? = some (.stringIter s pos) ∧ pos ≤ s.size ∧ bh ≤ s.size ∧ s.size ≤ pos + g ∧ s.size ≤ max pos bh + f ∧ ws.length ≤ max pos bh ∧
      Hid (∀ j, pos ≤ j → j < bh → bz s j < 128) ∧ Hid (lexGo s f (max pos bh) ws = R) ∧ wx.ownsRow (w.heap.size + 2) 30 3 o ws.length (flatW ws) ∧
      wx.heap[w.heap.size]? = some (.cells #[.int .i64 0, .int .i64 0] 26) ∧ Below w.heap.size w wx)
  case atStart =>
    refine ⟨0, 0, s.size, [], rfl, ?_, by omega, by omega, by omega, by omega, by simp, fun j h1 h2 => by omega, HR, World.ownsRow_nil _ _ _ _, ?_, ?_⟩
    · have := World.iter_heap (w.alloc (.cells #[.int .i64 0, .int .i64 0] 26)) s 0
      simpa using this
    · rw [World.iter, Below.heap_alloc _ _ _ (by simp)]
      exact (MapKept.heap_alloc w _).1
    · exact ((Below.refl _ _).alloc (Nat.le_refl _) _).alloc (by simp) _
  case round =>
    obtain ⟨pos, bh, f, ws, rfl, hit, hps, hbs, hfu, hfl, hwl, HA, HE, hown, hfault, hnx⟩ := hrel
    clear HR
    have hBlt : w.heap.size + 1 < wr.heap.size := (Array.getElem?_eq_some_iff.1 hit).1
    by_cases hp : pos < s.size
    · obtain ⟨g, rfl⟩ : ∃ g, gk = g + 1 := ⟨gk - 1, by omega⟩
      have hb := bz_at s hp
      by_cases ha : (s[pos]'hp).toNat < 128
      · have hnxt : ∀ ty, (Instr.next (.pointer (some ⟨w.heap.size + 1, 0, none⟩)) true ty).run Try.prog wr = _ := fun ty => Lib.run_next_ascii_at wr (w.heap.size + 1) s pos ty hit hp ha
        have hit2 := Lib.iterAt_heap wr (w.heap.size + 1) s pos (pos + 1) hit
        have hbw2 := Lib.below_iterAt hnx (k := w.heap.size + 1) (by omega) s (pos + 1)
        have hown2 := owns_iterAt hown (k := w.heap.size + 1) (by omega) s (pos + 1)
        have hf2 := (Lib.iterAt_other wr (w.heap.size + 1) w.heap.size s (pos + 1) (by omega)).trans hfault
        have hsz2 : w.heap.size + 1 < (wr.iterAt (w.heap.size + 1) s (pos + 1)).heap.size := by rw [Lib.iterAt_size]; exact hBlt
        obtain ⟨W, hWd⟩ : ∃ W, wr.iterAt (w.heap.size + 1) s (pos + 1) = W := ⟨_, rfl⟩
        rw [hWd] at hnxt hit2 hbw2 hown2 hf2 hsz2
        have hit3 : Hid (W.heap[w.heap.size + 1]? = some (.stringIter s (pos + 1))) := hit2
        have hf3 : Hid (W.heap[w.heap.size]? = some (.cells #[.int .i64 0, .int .i64 0] 26)) := hf2
        clear hWd hit hit2 hnx hown hfault hf2 hBlt
        by_cases hlt : pos < bh
        · have HA' : Hid (∀ j, pos + 1 ≤ j → j < bh → bz s j < 128) := fun j h1 h2 => HA.out j (by omega) h2
          have HE' : Hid (lexGo s f (max (pos + 1) bh) ws = R) := by
            rw [show max (pos + 1) bh = max pos bh by omega]
            exact HE
          clear HA HE hb
          go_wp2_with fail
          go_roundg g
          case measure => omega
          case rel => exact ⟨pos + 1, bh, f, ws, rfl, hit3.out, by omega, hbs, by omega, by omega, by omega, HA', HE', hown2, hf3.out, hbw2⟩
        · have em : max pos bh = pos := by omega
          obtain ⟨f, rfl⟩ : ∃ f', f = f' + 1 := ⟨f - 1, by omega⟩
          have hE := HE.out
          rw [em] at hE hwl hfl
          clear HA HE em
          have hnlt : decide ((pos : Int) < (bh : Int)) = false := decide_eq_false (by omega)
          cases hbl : blankZ ((s[pos]'hp).toNat : Int) with
          | true =>
            rw [lexGo_blank hp (by rw [hb]; exact hbl)] at hE
            have HE' : Hid (lexGo s f (max (pos + 1) bh) ws = R) := by
              rw [show max (pos + 1) bh = pos + 1 by omega]
              exact hE
            have HA' : Hid (∀ j, pos + 1 ≤ j → j < bh → bz s j < 128) := fun j h1 h2 => by omega
            clear hE hb ha
            cases h32 : (((s[pos]'hp).toNat : Int) == 32) with
            | true =>
              clear hbl
              go_wp2_with fail
              go_roundg g
              case measure => omega
              case rel => exact ⟨pos + 1, bh, f, ws, rfl, hit3.out, by omega, hbs, by omega, by omega, by omega, HA', HE', hown2, hf3.out, hbw2⟩
            | false =>
              have h10 : (((s[pos]'hp).toNat : Int) == 10) = true := by simpa [blankZ, h32] using hbl
              clear hbl
              go_wp2_with fail
              go_roundg g
              case measure => omega
              case rel => exact ⟨pos + 1, bh, f, ws, rfl, hit3.out, by omega, hbs, by omega, by omega, by omega, HA', HE', hown2, hf3.out, hbw2⟩
          | false =>
            have h32 : (((s[pos]'hp).toNat : Int) == 32) = false := by
              cases h : (((s[pos]'hp).toNat : Int) == 32) with
              | false => rfl
              | true => simp [blankZ, h] at hbl
            have h10 : (((s[pos]'hp).toNat : Int) == 10) = false := by
              cases h : (((s[pos]'hp).toNat : Int) == 10) with
              | false => rfl
              | true => simp [blankZ, h] at hbl
            have hnb : ¬ blankZ (bz s pos) = true := by rw [hb, hbl]; simp
            have hfr : FirstRune (s.extract pos s.size) (s[pos]'hp).toNat := by
              have h0 : 0 < (s.extract pos s.size).size := by rw [rest_size]; omega
              have e0 : (s.extract pos s.size)[0]'h0 = s[pos]'hp := by
                rw [ByteArray.getElem_extract]
                congr 1
              exact ⟨h0, Or.inl ⟨by rw [e0]; exact ha, by rw [e0]⟩⟩
            have hword := first_calls (s.extract pos s.size) (s[pos]'hp).toNat (by rw [rest_size]; omega) hfr
            rw [wordAt_rest hp, restVal_unplaced] at hword
            clear hbl hb ha hfr
            cases hw : wordAt s pos with
            | error c =>
              rw [lexGo_bad hp hnb hw] at hE
              rw [hw] at hword
              have HW : Hid (∀ w, _) := hword
              have hc := wordAt_code hw
              clear hw hnb hword hown2 hit3
              subst hE
              generalize ((s[pos]'hp).toNat) = x at *
              go_wp2_with fail
              refine (HW.out _).mono ?_
              rintro e W1 ⟨rfl, hb1⟩
              have hf4 := (hb1.block w.heap.size (by omega)).trans hf3.out
              have q0 := cell_of_heap hf4 0
              have q1 := cell_of_heap hf4 1
              have z0 := frozen_of_heap hf4 0
              have z1 := frozen_of_heap hf4 1
              simp at q0 q1
              have hnx1 := hbw2.trans (hb1.mono hbw2.size)
              have hBlt1 : w.heap.size < W1.heap.size := World.block_lt_of_cell? W1 _ q0
              clear HW hb1 hf3 hbw2 hf4
              simp only [restVal]
              have hcc : (c != 0) = true := by rcases hc with rfl | rfl | rfl <;> rfl
              go_wp2_with fail
              refine bodyPost_ret (v := .tuple #[.slice none 0 0, .agg #[.int .i64 c, .int .i64 pos]]) (by simp [results, Try.results5, go_sem, q0, q1, hBlt1]) rfl ⟨⟨.slice none 0 0, rfl, World.ownsRow_nil _ _ _ _⟩, ?_⟩
              exact ((hnx1.setCell (by simp) _).setCell (by simp) _).alloc (by simp; omega) _
            | ok de =>
              obtain ⟨d, e⟩ := de
              rw [lexGo_word hp hnb hw] at hE
              rw [hw] at hword
              have HW : Hid (∀ w, _) := hword
              have hend := wordAt_end hp hw
              have htx := wordAt_text hp hw
              have has := wordAt_ascii hp hw
              have HE' : Hid (lexGo s f (max (pos + 1) e) (ws ++ [d]) = R) := by
                rw [show max (pos + 1) e = e by omega]
                exact hE
              have HA' : Hid (∀ j, pos + 1 ≤ j → j < e → bz s j < 128) := fun j h1 h2 => has j (by omega) h2
              have Htx : Hid (e = pos + d.text.size ∧ d.at_ = pos ∧ e ≤ s.size) := htx
              have hts : d.text.size ≤ 1500 := by omega
              clear hw hnb hword hE has htx
              generalize ((s[pos]'hp).toNat) = x at *
              go_wp2_with fail
              refine (HW.out _).mono ?_
              rintro e' W1 ⟨rfl, hb1⟩
              have hf4 := (hb1.block w.heap.size (by omega)).trans hf3.out
              have hit4 := (hb1.block (w.heap.size + 1) hsz2).trans hit3.out
              have hown1 := owns_below hown2 hb1
              have hnx1 := hbw2.trans (hb1.mono hbw2.size)
              have hBlt1 : w.heap.size + 1 < W1.heap.size := (Array.getElem?_eq_some_iff.1 hit4).1
              have Hf4 : Hid (W1.heap[w.heap.size]? = some (.cells #[.int .i64 0, .int .i64 0] 26)) := hf4
              have Hit4 : Hid (W1.heap[w.heap.size + 1]? = some (.stringIter s (pos + 1))) := hit4
              clear HW hb1 hf3 hit3 hbw2 hown2 hf4 hit4 hsz2
              simp only [restVal]
              go_wp2_with (first
                | (at_builtin; refine wpList_append_own _ rfl _ _ 24 rfl (w.heap.size + 2) 30 i0 (.agg #[.int .i64 0, .string ⟨#[]⟩, .int .i64 0]) 3 32 Try.underlying24 hi hz0 hz1 hz2 rfl (by decide) _ _ _ rfl ((hown1.alloc _).alloc _) ⟨W1.heap.size + 1, 0, none⟩ 1 1 [.int .i64 d.kind, .string d.text, .int .i64 pos] rfl rfl (cell_three_new _ _ (by simp) _ _ _ _) (fun x hx => by simp at hx; rcases hx with rfl | rfl | rfl <;> rfl) (by unfold maxLen; omega) (by omega) (by simp; omega) ?_
                   intro v' w3 hown' hgrow3 hnil3
                   have hf5 : Hid (w3.heap[w.heap.size]? = some (.cells #[.int .i64 0, .int .i64 0] 26)) := by
                     show w3.heap[w.heap.size]? = _
                     rw [hgrow3.block w.heap.size (by simp; omega) (fun h => by have := (hown1.lt _ h.symm).1; omega), Below.heap_alloc _ _ _ (by simp; omega), Below.heap_alloc _ _ _ (by omega)]
                     exact Hf4.out
                   have hit5 : Hid (w3.heap[w.heap.size + 1]? = some (.stringIter s (pos + 1))) := by
                     show w3.heap[w.heap.size + 1]? = _
                     rw [hgrow3.block (w.heap.size + 1) (by simp; omega) (fun h => by have := (hown1.lt _ h.symm).1; omega), Below.heap_alloc _ _ _ (by simp; omega), Below.heap_alloc _ _ _ (by omega)]
                     exact Hit4.out
                   have hbw3 : Below w.heap.size w w3 := Below.grown ((hnx1.alloc (by omega) _).alloc (by simp; omega) _) hgrow3 (by simp; omega) (fun j hj => by have := (hown1.lt _ hj).1; omega)
                   have hwb : Hid (w3.heap[W1.heap.size]? = some (.cells #[.int .i64 d.kind, .string d.text, .int .i64 pos] 30)) := by
                     show w3.heap[W1.heap.size]? = _
                     rw [hgrow3.block W1.heap.size (by simp; omega) (fun h => by have := (hown1.lt _ h.symm).2; omega), Below.heap_alloc _ _ _ (by simp)]
                     exact (MapKept.heap_alloc W1 _).1
                   have k1 := cell_of_heap hwb.out 1
                   simp at k1
                   clear hgrow3 hnil3 Hf4 Hit4 hown1 hnx1 hwb))
              go_roundg g
              case measure => omega
              case rel =>
                have htx := Htx.out
                refine ⟨pos + 1, e, f, ws ++ [d], ?_, hit5.out, by omega, by omega, by omega, by omega, by simp; omega, HA', HE', ?_, hf5.out, hbw3⟩
                · rw [htx.1]
                  simp
                · rw [flatW_append, List.length_append]
                  have ed : flatW [d] = [.int .i64 d.kind, .string d.text, .int .i64 pos] := by
                    rw [← htx.2.1]
                    rfl
                  rw [ed]
                  exact hown'
      · have hnxt : ∀ ty, (Instr.next (.pointer (some ⟨w.heap.size + 1, 0, none⟩)) true ty).run Try.prog wr = _ := fun ty => Lib.run_next_any_at wr (w.heap.size + 1) s pos ty hit hp
        have hhi := (decode_high s pos hp (by omega)).1
        have hbw2 := Lib.below_iterAt hnx (k := w.heap.size + 1) (by omega) s (pos + (Utf8.decode s pos).2)
        have hf2 := (Lib.iterAt_other wr (w.heap.size + 1) w.heap.size s (pos + (Utf8.decode s pos).2) (by omega)).trans hfault
        have hsz2 : w.heap.size + 1 < (wr.iterAt (w.heap.size + 1) s (pos + (Utf8.decode s pos).2)).heap.size := by rw [Lib.iterAt_size]; exact hBlt
        obtain ⟨X, hX⟩ : ∃ X, (Utf8.decode s pos).1 = X := ⟨_, rfl⟩
        rw [hX] at hnxt hhi
        obtain ⟨W, hWd⟩ : ∃ W, wr.iterAt (w.heap.size + 1) s (pos + (Utf8.decode s pos).2) = W := ⟨_, rfl⟩
        rw [hWd] at hnxt hbw2 hf2 hsz2
        have hf3 : Hid (W.heap[w.heap.size]? = some (.cells #[.int .i64 0, .int .i64 0] 26)) := hf2
        have hlt : ¬ pos < bh := fun h => by
          have := HA.out pos (by omega) h
          rw [hb] at this
          omega
        have em : max pos bh = pos := by omega
        obtain ⟨f, rfl⟩ : ∃ f', f = f' + 1 := ⟨f - 1, by omega⟩
        have hE := HE.out
        rw [em] at hE
        have hnlt : decide ((pos : Int) < (bh : Int)) = false := decide_eq_false (by omega)
        obtain ⟨h32, h10⟩ := blank_high (x := (X : Int)) (by omega)
        obtain ⟨b32, b10⟩ := blank_high (x := ((s[pos]'hp).toNat : Int)) (by omega)
        have hnb : ¬ blankZ (bz s pos) = true := by rw [hb, blankZ, b32, b10]; simp
        have hfr : FirstRune (s.extract pos s.size) X := by
          have h0 : 0 < (s.extract pos s.size).size := by rw [rest_size]; omega
          have e0 : (s.extract pos s.size)[0]'h0 = s[pos]'hp := by
            rw [ByteArray.getElem_extract]
            congr 1
          exact ⟨h0, Or.inr ⟨by rw [e0]; omega, hhi⟩⟩
        have hword := first_calls (s.extract pos s.size) X (by rw [rest_size]; omega) hfr
        rw [wordAt_rest hp, restVal_unplaced] at hword
        cases hw : wordAt s pos with
        | ok de =>
          obtain ⟨d, e⟩ := de
          have := wordAt_ascii hp hw pos (by omega) (wordAt_end hp hw).1
          rw [hb] at this
          omega
        | error c =>
          rw [lexGo_bad hp hnb hw] at hE
          rw [hw] at hword
          have HW : Hid (∀ w, _) := hword
          have hc := wordAt_code hw
          clear hw hnb hword hown hit hfault hf2 hnx HA HE hWd hX hfr b32 b10 em hb ha hhi
          subst hE
          go_wp2_with fail
          refine (HW.out _).mono ?_
          rintro e W1 ⟨rfl, hb1⟩
          have hf4 := (hb1.block w.heap.size (by omega)).trans hf3.out
          have q0 := cell_of_heap hf4 0
          have q1 := cell_of_heap hf4 1
          have z0 := frozen_of_heap hf4 0
          have z1 := frozen_of_heap hf4 1
          simp at q0 q1
          have hnx1 := hbw2.trans (hb1.mono hbw2.size)
          have hBlt1 : w.heap.size < W1.heap.size := World.block_lt_of_cell? W1 _ q0
          clear HW hb1 hf3 hbw2 hf4
          simp only [restVal]
          have hcc : (c != 0) = true := by rcases hc with rfl | rfl | rfl <;> rfl
          go_wp2_with fail
          refine bodyPost_ret (v := .tuple #[.slice none 0 0, .agg #[.int .i64 c, .int .i64 pos]]) (by simp [results, Try.results5, go_sem, q0, q1, hBlt1]) rfl ⟨⟨.slice none 0 0, rfl, World.ownsRow_nil _ _ _ _⟩, ?_⟩
          exact ((hnx1.setCell (by simp) _).setCell (by simp) _).alloc (by simp; omega) _
    · have hnxt : ∀ ty, (Instr.next (.pointer (some ⟨w.heap.size + 1, 0, none⟩)) true ty).run Try.prog wr = _ := fun ty => Lib.run_next_end_at wr (w.heap.size + 1) s pos ty hit hp
      have hE := HE.out
      rw [lexGo_end (by omega)] at hE
      have q0 := cell_of_heap hfault 0
      have q1 := cell_of_heap hfault 1
      have z0 := frozen_of_heap hfault 0
      have z1 := frozen_of_heap hfault 1
      simp at q0 q1
      subst hE
      clear HE HA hfault hit
      go_wp2_with fail
      refine bodyPost_ret (v := .tuple #[_, .agg #[.int .i64 0, .int .i64 0]]) (by simp [results, Try.results5, go_sem, q0, q1]; rfl) rfl ⟨⟨_, rfl, ?_⟩, (hnx.setCell (by simp) _).setCell (by simp) _⟩
      exact owns_setCell (owns_setCell hown (by simp) _) (by simp) _
end Go.Proofs.Ytnhofdngmbnlkaa

/- The law on words, walked: whatever text is drawn. -/
namespace Go.Proofs.Ytnhofdngmbnlkaa
open Go.RowKit Go.Deep

theorem join_snoc (d : Wd) : ∀ l : List Wd, joinB (l ++ [d]) = joinB l ++ d.text ++ blankB
  | [] => by
    show d.text ++ (blankB ++ ByteArray.empty) = (ByteArray.empty ++ d.text) ++ blankB
    rw [ByteArray.append_empty, ByteArray.empty_append]
  | x :: r => by
    show x.text ++ (blankB ++ joinB (r ++ [d])) = x.text ++ (blankB ++ joinB r) ++ d.text ++ blankB
    rw [join_snoc d r]
    simp only [ByteArray.append_assoc]

theorem join_take {ws : List Wd} {k : Nat} (hk : k < ws.length) : joinB (ws.take (k + 1)) = joinB (ws.take k) ++ (ws.getD k default).text ++ blankB := by
  rw [List.take_succ_eq_append_getElem hk, join_snoc]
  simp [List.getD, List.getElem?_eq_getElem hk]

theorem join_size {s : ByteArray} : ∀ l : List Wd, (∀ d ∈ l, InS s d) → (joinB l).size ≤ 10 * l.length
  | [], _ => Nat.zero_le _
  | d :: r, h => by
    have h1 := join_size r (fun x hx => h x (by simp [hx]))
    have h2 := (h d (by simp)).text
    show (d.text ++ (blankB ++ joinB r)).size ≤ _
    rw [ByteArray.size_append, ByteArray.size_append]
    have : blankB.size = 1 := rfl
    simp only [List.length_cons]
    omega

theorem lexLen (s : ByteArray) : ∀ (f p : Nat) (ws : List Wd), (lexGo s f p ws).1.length ≤ ws.length + f
  | 0, _, _ => by simp [lexGo]
  | f + 1, p, ws => by
    unfold lexGo
    split
    · split
      · have := lexLen s f (p + 1) ws
        omega
      · split
        · simp
        · rename_i d e _
          have := lexLen s f e (ws ++ [d])
          simp at this
          omega
    · simp

theorem lexAllLen (s : ByteArray) : (lexAll s).1.length ≤ 1509 := by
  unfold lexAll
  split
  · simp
  · have := lexLen s s.size 0 []
    simp at this
    omega

/-- A word's three cells, where the row lies. -/
theorem word_cells {B n k : Nat} {w : World} {ad : Option Addr} {cap : Nat} {ws : List Wd} (h : WSliceOf B w (.slice ad n cap) n (wordCells ws)) (hk : k < n) : ∃ g, ad = some ⟨g, 0, none⟩ ∧ w.cell? ⟨g, k * 3, none⟩ = some (.int .i64 (ws.getD k default).kind) ∧ w.cell? ⟨g, k * 3 + 1, none⟩ = some (.string (ws.getD k default).text) ∧ w.cell? ⟨g, k * 3 + 2, none⟩ = some (.int .i64 (ws.getD k default).at_) := by
  obtain ⟨ad', c', e, h⟩ := h
  cases e
  obtain ⟨g, e2, -, hr⟩ := h.resolve_left (by omega)
  obtain ⟨N, f, hf, hN, hF⟩ := hr
  obtain ⟨e0, e1, e2'⟩ := hF k hk
  exact ⟨g, e2, by rw [hf.cell (by omega), e0]; rfl, by rw [hf.cell (by omega), e1]; rfl, by rw [hf.cell (by omega), e2']; rfl⟩

theorem word_slice {B n : Nat} {w : World} {v : Value} {F : Nat → Value × Value × Value} (h : WSliceOf B w v n F) : ∃ ad cap, v = .slice ad n cap := by
  obtain ⟨ad, c, e, -⟩ := h
  exact ⟨ad, c, e⟩

set_option maxHeartbeats 8000000 in
set_option maxRecDepth 100000 in
theorem words_walk (a0 : Option Addr) (len cap : Nat) (W : World) (hD : len ≤ 1048576 → Calls Try.prog 4 #[.slice a0 len cap] W fun e W' => ∃ t : ByteArray, e = .returned (.string t) ∧ t.size ≤ 50000 ∧ Below W.heap.size W W') :
    Calls Try.prog 3 #[.slice a0 len cap] W fun e W' => e = .returned (.bool true) ∧ Below W.heap.size W W' := by
  by_cases hl : (1048576 : Int) < (len : Int)
  · go_enter Try.func3, Try.ntmps3
    go_wp2_with fail
    go_ret
    exact ⟨rfl, Below.refl _ _⟩
  have HD := hid (hD (by omega))
  have hl' : (len : Int) ≤ 1048576 := by omega
  clear hD hl
  go_enter Try.func3, Try.ntmps3
  go_wp2_with fail
  refine HD.out.mono ?_
  rintro e W0 ⟨t, rfl, ht0, hb0⟩
  have HB0 := hid hb0
  have HT0 := hid ht0
  clear ht0
  have HLen := hid (lexAllLen t)
  have HIn := hid (lexAll_in t)
  have HJo := hid (lex_join t)
  have HI := hid (implWords_calls t)
  have HS := hid (specWords_calls t)
  obtain ⟨R, hR⟩ : ∃ R, lexAll t = R := ⟨_, rfl⟩
  rw [hR] at HLen HIn HJo HI HS
  clear hR hb0 HD hl'
  obtain ⟨ws, c, p⟩ := R
  have HI2 : Hid (∀ w, Calls Try.prog 5 #[.string (joinB ws)] w fun e w' => (∃ v, Told (w.heap.size + 2) (lexAll (joinB ws)) v e w') ∧ Below w.heap.size w w') := implWords_calls (joinB ws)
  dsimp only at HLen HIn HJo
  obtain ⟨n, hn⟩ : ∃ n, ws.length = n := ⟨_, rfl⟩
  have Hn := hid hn
  clear hn
  go_wp2_with fail
  refine (HI.out _).mono ?_
  rintro e W1 ⟨⟨va, rfl, hva⟩, hb1⟩
  have hVa := slice_of_owns hva
  dsimp only at hVa ⊢
  rw [Hn.out] at hVa
  obtain ⟨aa, ca, hae⟩ := word_slice hVa
  subst hae
  have HVa := hid hVa
  have HB1 := hid (HB0.out.trans (hb1.mono HB0.out.size))
  clear hva hVa hb1 HB0 HI
  have hbA := (Below.refl W1.heap.size W1).alloc (Nat.le_refl _) (.cells #[.int .i64 c, .int .i64 p] 26)
  have HVa2 := hid (HVa.out.below hbA)
  have HB2 := hid (HB1.out.trans (hbA.mono HB1.out.size))
  have HF2 : Hid ((W1.alloc (.cells #[.int .i64 c, .int .i64 p] 26)).heap[W1.heap.size]? = some (.cells #[.int .i64 c, .int .i64 p] 26) ∧ W1.heap.size < (W1.alloc (.cells #[.int .i64 c, .int .i64 p] 26)).heap.size) := ⟨(MapKept.heap_alloc W1 _).1, by simp⟩
  go_wp2_with fail
  obtain ⟨W2, hW2⟩ : ∃ X, W1.alloc (.cells #[.int .i64 c, .int .i64 p] 26) = X := ⟨_, rfl⟩
  obtain ⟨b5, hb5⟩ : ∃ b, W1.heap.size = b := ⟨_, rfl⟩
  rw [hW2] at HVa2 HB2 HF2 ⊢
  rw [hb5] at HF2 ⊢
  clear hW2 hb5 hbA HVa HB1
  refine (HS.out _).mono ?_
  rintro e W3 ⟨⟨vb, rfl, hvb⟩, hb3⟩
  have hVb := slice_of_owns hvb
  dsimp only at hVb ⊢
  rw [Hn.out] at hVb
  obtain ⟨ab, cb, hae⟩ := word_slice hVb
  subst hae
  have hbA := (Below.refl W3.heap.size W3).alloc (Nat.le_refl _) (.cells #[.int .i64 c, .int .i64 p] 26)
  have hbB := hb3.trans (hbA.mono hb3.size)
  have HVb4 := hid (hVb.below hbA)
  have HVa4 := hid (HVa2.out.below hbB)
  have HB4 := hid (HB2.out.trans (hbB.mono HB2.out.size))
  have HF4 : Hid ((W3.alloc (.cells #[.int .i64 c, .int .i64 p] 26)).heap[b5]? = some (.cells #[.int .i64 c, .int .i64 p] 26) ∧ b5 < (W3.alloc (.cells #[.int .i64 c, .int .i64 p] 26)).heap.size) := ⟨(hbB.block b5 HF2.out.2).trans HF2.out.1, Nat.lt_of_lt_of_le HF2.out.2 hbB.size⟩
  have x0 := cell_of_heap HF4.out.1 0
  have x1 := cell_of_heap HF4.out.1 1
  simp only [List.getElem?_toArray, List.getElem?_cons_zero, List.getElem?_cons_succ] at x0 x1
  clear hvb hVb hb3 HVa2 HB2 HF2 HS hbA hbB
  have hcc : (c != c) = false := by simp
  have hpp : ((p : Int) != p) = false := by simp
  go_wp2_with fail
  clear hcc hpp x0 x1
  obtain ⟨W4, hW4⟩ : ∃ X, W3.alloc (.cells #[.int .i64 c, .int .i64 p] 26) = X := ⟨_, rfl⟩
  rw [hW4] at HVa4 HVb4 HB4 HF4 ⊢
  clear hW4
  go_loopw [8, 9] (fun sv iv wr => ∃ (k : Nat) (S : ByteArray), k ≤ n ∧ iv = .int .i64 k ∧ sv = .string S ∧ Hid (S = joinB (ws.take k)) ∧ Hid (Below W4.heap.size W4 wr)) (fun _ iv _ => n - (intOf iv).toNat)
  case atStart => exact ⟨0, ⟨#[]⟩, Nat.zero_le _, rfl, rfl, rfl, Below.refl _ _⟩
  case round =>
    obtain ⟨k, S, hk, rfl, rfl, HSe, HBw⟩ := hrel
    by_cases hkl : (k : Int) < (n : Int)
    · have hkn : k < n := by omega
      obtain ⟨ga, hga, c0, c1, c2⟩ := word_cells (HVa4.out.below HBw.out) hkn
      obtain ⟨gb, hgb, d0, d1, d2⟩ := word_cells (HVb4.out.below HBw.out) hkn
      subst hga hgb
      have HIk : Hid (InS t (ws.getD k default)) := by
        have hkw : k < ws.length := by rw [Hn.out]; exact hkn
        have := HIn.out (ws[k]) (List.getElem_mem hkw)
        show InS t (ws.getD k default)
        rw [show ws.getD k default = ws[k] by simp [List.getD, List.getElem?_eq_getElem hkw]]
        exact this
      have HSn : Hid (S ++ (ws.getD k default).text ++ blankB = joinB (ws.take (k + 1))) := by
        show _ = _
        rw [join_take (by rw [Hn.out]; exact hkn), HSe.out]
      have HSz : Hid (S.size ≤ 15090) := by
        show _ ≤ _
        rw [HSe.out]
        have h1 := join_size (s := t) (ws.take k) (fun d hd => HIn.out d (List.mem_of_mem_take hd))
        rw [List.length_take] at h1
        have := HLen.out
        omega
      generalize ws.getD k default = wd at *
      have htx := HIk.out.text
      have hcut := HIk.out.cut
      obtain ⟨kd, tx, pt⟩ := wd
      dsimp only at c0 c1 c2 d0 d1 d2 HSn htx hcut
      have hts := hid (And.intro htx HT0.out)
      have hw : IntKind.i64.wrap ((pt : Int) + (tx.size : Int)) = (pt : Int) + (tx.size : Int) := by rw [IntKind.wrap_i64]; have := hts.out; omega

      have hs1 : (pt : Int) ≤ (pt : Int) + (tx.size : Int) := by omega
      have hs2 : (pt : Int) + (tx.size : Int) ≤ (t.size : Int) := by have := hts.out; omega
      have hcu : t.extract pt ((pt : Int) + (tx.size : Int)).toNat = tx := by rw [show ((pt : Int) + (tx.size : Int)).toNat = pt + tx.size by omega]; exact hcut
      have hcat : ¬ 9223372036854775807 < S.size + tx.size := by have := hts.out; have := HSz.out; omega
      have hcat2 : ¬ 9223372036854775807 < S.size + tx.size + 1 := by have := hts.out; have := HSz.out; omega
      have hi0 : (0 : Int) ≤ (k : Int) := by omega
      have hp0 : (0 : Int) ≤ (pt : Int) := by omega
      have hstep : n - (intOf (.int .i64 ((k + 1 : Nat) : Int))).toNat < n - (intOf (.int .i64 (k : Int))).toNat := lt_step hkl
      have HstP := hid hstep
      have HW1 := hid (wrap_succ (x := k) (by have := Hn.out; have := HLen.out; omega))
      clear htx HIk hkn hcut hstep
      go_upto_region 12 with fail
      have hS : wr.cell? ⟨ga, k * 3, none⟩ = some (.int .i64 kd) ∧ wr.cell? ⟨ga, k * 3 + 1, none⟩ = some (.string tx) ∧ wr.cell? ⟨ga, k * 3 + 2, none⟩ = some (.int .i64 pt) ∧ wr.cell? ⟨gb, k * 3, none⟩ = some (.int .i64 kd) ∧ wr.cell? ⟨gb, k * 3 + 1, none⟩ = some (.string tx) ∧ wr.cell? ⟨gb, k * 3 + 2, none⟩ = some (.int .i64 pt) := ⟨c0, c1, c2, d0, d1, d2⟩
      refine pick_begin (S := fun wr => wr.cell? ⟨ga, k * 3, none⟩ = some (.int .i64 kd) ∧ wr.cell? ⟨ga, k * 3 + 1, none⟩ = some (.string tx) ∧ wr.cell? ⟨ga, k * 3 + 2, none⟩ = some (.int .i64 pt) ∧ wr.cell? ⟨gb, k * 3, none⟩ = some (.int .i64 kd) ∧ wr.cell? ⟨gb, k * 3 + 1, none⟩ = some (.string tx) ∧ wr.cell? ⟨gb, k * 3 + 2, none⟩ = some (.int .i64 pt)) (n := 36) (ls := #[false, false, false, false, false, false, false, false, false, false, false, false, false, false, false, false, false, false, false, false, false, false, false, false, false, false, false, false, false, false, false, false, false, false, false, false]) (by kernel_rfl) rfl (by kernel_rfl) ?_
      have HBd := hid HBw.out.drew
      replace hS : wr.drew.cell? ⟨ga, k * 3, none⟩ = some (.int .i64 kd) ∧ wr.drew.cell? ⟨ga, k * 3 + 1, none⟩ = some (.string tx) ∧ wr.drew.cell? ⟨ga, k * 3 + 2, none⟩ = some (.int .i64 pt) ∧ wr.drew.cell? ⟨gb, k * 3, none⟩ = some (.int .i64 kd) ∧ wr.drew.cell? ⟨gb, k * 3 + 1, none⟩ = some (.string tx) ∧ wr.drew.cell? ⟨gb, k * 3 + 2, none⟩ = some (.int .i64 pt) := hS
      clear c0 c1 c2 d0 d1 d2
      generalize wr.drew = wd at *
      refine pick_op (i := 0) (v := .slice (some ⟨ga, 0, none⟩) n ca) (by kernel_rfl) rfl (by kernel_rfl) (by kernel_rfl) rfl rfl (fun w' hw' => by simp [go_sem]) hS (by simp [go_sem]; exact rfl) ?_
      refine pick_op (i := 1) (v := .int .i64 (k : Int)) (by kernel_rfl) rfl (by kernel_rfl) (by kernel_rfl) rfl rfl (fun w' hw' => by simp [go_sem]) hS (by simp [go_sem]; exact rfl) ?_
      refine pick_op (i := 2) (v := .pointer (some ⟨ga, k * 3, none⟩)) (by kernel_rfl) rfl (by kernel_rfl) (by kernel_rfl) rfl rfl (fun w' hw' => by simp [go_sem, hi0, hkl]) hS (by simp [go_sem]; exact rfl) ?_
      refine pick_op (i := 3) (v := .agg #[.int .i64 kd, .string tx, .int .i64 pt]) (by kernel_rfl) rfl (by kernel_rfl) (by kernel_rfl) rfl rfl (fun w' hw' => by obtain ⟨e0, e1, e2, f0, f1, f2⟩ := hw'; simp [go_sem, e0, e1, e2]) hS (by simp [go_sem]; exact rfl) ?_
      refine pick_op (i := 4) (v := .slice (some ⟨gb, 0, none⟩) n cb) (by kernel_rfl) rfl (by kernel_rfl) (by kernel_rfl) rfl rfl (fun w' hw' => by simp [go_sem]) hS (by simp [go_sem]; exact rfl) ?_
      refine pick_op (i := 5) (v := .int .i64 (k : Int)) (by kernel_rfl) rfl (by kernel_rfl) (by kernel_rfl) rfl rfl (fun w' hw' => by simp [go_sem]) hS (by simp [go_sem]; exact rfl) ?_
      refine pick_op (i := 6) (v := .pointer (some ⟨gb, k * 3, none⟩)) (by kernel_rfl) rfl (by kernel_rfl) (by kernel_rfl) rfl rfl (fun w' hw' => by simp [go_sem, hi0, hkl]) hS (by simp [go_sem]; exact rfl) ?_
      refine pick_op (i := 7) (v := .agg #[.int .i64 kd, .string tx, .int .i64 pt]) (by kernel_rfl) rfl (by kernel_rfl) (by kernel_rfl) rfl rfl (fun w' hw' => by obtain ⟨e0, e1, e2, f0, f1, f2⟩ := hw'; simp [go_sem, f0, f1, f2]) hS (by simp [go_sem]; exact rfl) ?_
      refine pick_op (i := 8) (v := .bool false) (by kernel_rfl) rfl (by kernel_rfl) (by kernel_rfl) rfl rfl (fun w' hw' => by simp [go_sem]) hS (by simp [go_sem]; exact rfl) ?_
      refine pick_op (i := 9) (v := .bool false) (by kernel_rfl) rfl (by kernel_rfl) (by kernel_rfl) rfl rfl (fun w' hw' => by simp [go_sem]) hS (by simp [go_sem]; exact rfl) ?_
      refine pick_op (i := 10) (v := .string t) (by kernel_rfl) rfl (by kernel_rfl) (by kernel_rfl) rfl rfl (fun w' hw' => by simp [go_sem]) hS (by simp [go_sem]; exact rfl) ?_
      refine pick_op (i := 11) (v := .slice (some ⟨ga, 0, none⟩) n ca) (by kernel_rfl) rfl (by kernel_rfl) (by kernel_rfl) rfl rfl (fun w' hw' => by simp [go_sem]) hS (by simp [go_sem]; exact rfl) ?_
      refine pick_op (i := 12) (v := .int .i64 (k : Int)) (by kernel_rfl) rfl (by kernel_rfl) (by kernel_rfl) rfl rfl (fun w' hw' => by simp [go_sem]) hS (by simp [go_sem]; exact rfl) ?_
      refine pick_op (i := 13) (v := .pointer (some ⟨ga, k * 3, none⟩)) (by kernel_rfl) rfl (by kernel_rfl) (by kernel_rfl) rfl rfl (fun w' hw' => by simp [go_sem, hi0, hkl]) hS (by simp [go_sem]; exact rfl) ?_
      refine pick_op (i := 14) (v := .pointer (some ⟨ga, k * 3 + 2, none⟩)) (by kernel_rfl) rfl (by kernel_rfl) (by kernel_rfl) rfl rfl (fun w' hw' => by simp [go_sem]) hS (by simp [go_sem]; exact rfl) ?_
      refine pick_op (i := 15) (v := .int .i64 pt) (by kernel_rfl) rfl (by kernel_rfl) (by kernel_rfl) rfl rfl (fun w' hw' => by obtain ⟨e0, e1, e2, f0, f1, f2⟩ := hw'; simp [go_sem, e2]) hS (by simp [go_sem]; exact rfl) ?_
      refine pick_op (i := 16) (v := .slice (some ⟨ga, 0, none⟩) n ca) (by kernel_rfl) rfl (by kernel_rfl) (by kernel_rfl) rfl rfl (fun w' hw' => by simp [go_sem]) hS (by simp [go_sem]; exact rfl) ?_
      refine pick_op (i := 17) (v := .int .i64 (k : Int)) (by kernel_rfl) rfl (by kernel_rfl) (by kernel_rfl) rfl rfl (fun w' hw' => by simp [go_sem]) hS (by simp [go_sem]; exact rfl) ?_
      refine pick_op (i := 18) (v := .pointer (some ⟨ga, k * 3, none⟩)) (by kernel_rfl) rfl (by kernel_rfl) (by kernel_rfl) rfl rfl (fun w' hw' => by simp [go_sem, hi0, hkl]) hS (by simp [go_sem]; exact rfl) ?_
      refine pick_op (i := 19) (v := .pointer (some ⟨ga, k * 3 + 2, none⟩)) (by kernel_rfl) rfl (by kernel_rfl) (by kernel_rfl) rfl rfl (fun w' hw' => by simp [go_sem]) hS (by simp [go_sem]; exact rfl) ?_
      refine pick_op (i := 20) (v := .int .i64 pt) (by kernel_rfl) rfl (by kernel_rfl) (by kernel_rfl) rfl rfl (fun w' hw' => by obtain ⟨e0, e1, e2, f0, f1, f2⟩ := hw'; simp [go_sem, e2]) hS (by simp [go_sem]; exact rfl) ?_
      refine pick_op (i := 21) (v := .slice (some ⟨ga, 0, none⟩) n ca) (by kernel_rfl) rfl (by kernel_rfl) (by kernel_rfl) rfl rfl (fun w' hw' => by simp [go_sem]) hS (by simp [go_sem]; exact rfl) ?_
      refine pick_op (i := 22) (v := .int .i64 (k : Int)) (by kernel_rfl) rfl (by kernel_rfl) (by kernel_rfl) rfl rfl (fun w' hw' => by simp [go_sem]) hS (by simp [go_sem]; exact rfl) ?_
      refine pick_op (i := 23) (v := .pointer (some ⟨ga, k * 3, none⟩)) (by kernel_rfl) rfl (by kernel_rfl) (by kernel_rfl) rfl rfl (fun w' hw' => by simp [go_sem, hi0, hkl]) hS (by simp [go_sem]; exact rfl) ?_
      refine pick_op (i := 24) (v := .pointer (some ⟨ga, k * 3 + 1, none⟩)) (by kernel_rfl) rfl (by kernel_rfl) (by kernel_rfl) rfl rfl (fun w' hw' => by simp [go_sem]) hS (by simp [go_sem]; exact rfl) ?_
      refine pick_op (i := 25) (v := .string tx) (by kernel_rfl) rfl (by kernel_rfl) (by kernel_rfl) rfl rfl (fun w' hw' => by obtain ⟨e0, e1, e2, f0, f1, f2⟩ := hw'; simp [go_sem, e1]) hS (by simp [go_sem]; exact rfl) ?_
      refine pick_op (i := 26) (v := .int .i64 (tx.size : Int)) (by kernel_rfl) rfl (by kernel_rfl) (by kernel_rfl) rfl rfl (fun w' hw' => by simp [go_sem]) hS (by simp [go_sem]; exact rfl) ?_
      refine pick_op (i := 27) (v := .int .i64 ((pt : Int) + (tx.size : Int))) (by kernel_rfl) rfl (by kernel_rfl) (by kernel_rfl) rfl rfl (fun w' hw' => by simp [go_sem, hw]) hS (by simp [go_sem]; exact rfl) ?_
      refine pick_op (i := 28) (v := .string tx) (by kernel_rfl) rfl (by kernel_rfl) (by kernel_rfl) rfl rfl (fun w' hw' => by simp [go_sem, hp0, hs1, hs2, hcu]) hS (by simp [go_sem]; exact rfl) ?_
      refine pick_op (i := 29) (v := .slice (some ⟨ga, 0, none⟩) n ca) (by kernel_rfl) rfl (by kernel_rfl) (by kernel_rfl) rfl rfl (fun w' hw' => by simp [go_sem]) hS (by simp [go_sem]; exact rfl) ?_
      refine pick_op (i := 30) (v := .int .i64 (k : Int)) (by kernel_rfl) rfl (by kernel_rfl) (by kernel_rfl) rfl rfl (fun w' hw' => by simp [go_sem]) hS (by simp [go_sem]; exact rfl) ?_
      refine pick_op (i := 31) (v := .pointer (some ⟨ga, k * 3, none⟩)) (by kernel_rfl) rfl (by kernel_rfl) (by kernel_rfl) rfl rfl (fun w' hw' => by simp [go_sem, hi0, hkl]) hS (by simp [go_sem]; exact rfl) ?_
      refine pick_op (i := 32) (v := .pointer (some ⟨ga, k * 3 + 1, none⟩)) (by kernel_rfl) rfl (by kernel_rfl) (by kernel_rfl) rfl rfl (fun w' hw' => by simp [go_sem]) hS (by simp [go_sem]; exact rfl) ?_
      refine pick_op (i := 33) (v := .string tx) (by kernel_rfl) rfl (by kernel_rfl) (by kernel_rfl) rfl rfl (fun w' hw' => by obtain ⟨e0, e1, e2, f0, f1, f2⟩ := hw'; simp [go_sem, e1]) hS (by simp [go_sem]; exact rfl) ?_
      refine pick_op (i := 34) (v := .bool false) (by kernel_rfl) rfl (by kernel_rfl) (by kernel_rfl) rfl rfl (fun w' hw' => by simp [go_sem]) hS (by simp [go_sem]; exact rfl) ?_
      refine pick_op (i := 35) (v := .bool false) (by kernel_rfl) rfl (by kernel_rfl) (by kernel_rfl) rfl rfl (fun w' hw' => by simp [go_sem]) hS (by simp [go_sem]; exact rfl) ?_
      refine pick_end (by kernel_rfl) ?_
      obtain ⟨c0, c1, c2, d0, d1, d2⟩ := hS
      clear d0 d1 d2 c0 c2 hw hs1 hs2 hcu hp0
      go_wp2_with fail
      try rw [HW1.out]
      exact ⟨⟨k + 1, _, by omega, rfl, rfl, HSn, HBd⟩, HstP.out⟩
    · have hkn : k = n := by omega
      have HSf : Hid (S = joinB ws) := by
        show _ = _
        rw [HSe.out, hkn, ← Hn.out, List.take_length]
      subst hkn
      have hFw := (HBw.out.block b5 HF4.out.2).trans HF4.out.1
      have x0 := cell_of_heap hFw 0
      simp only [List.getElem?_toArray, List.getElem?_cons_zero] at x0
      have HVw := hid (HVa4.out.below HBw.out)
      have HBz := hid (HB4.out.trans (HBw.out.mono HB4.out.size))
      clear HSe HVa4 HVb4 HB4 HBw HIn HF4 hFw hk
      by_cases hc0 : c = 0
      · by_cases hsz : (1500 : Int) < (S.size : Int)
        · subst hc0
          go_wp2_with fail
          go_ret
          exact ⟨rfl, HBz.out⟩
        · have HJ := hid (HJo.out (by rw [← HSf.out]; omega))
          have HI3 : Hid (∀ w, Calls Try.prog 5 #[.string S] w fun e w' => (∃ v, Told (w.heap.size + 2) (placed 0 ws, 0, 0) v e w') ∧ Below w.heap.size w w') := by
            have h := HI2.out
            rw [HJ.out] at h
            rw [HSf.out]
            exact h
          subst hc0
          clear HJ HI2 HJo
          go_wp2_with fail
          refine (HI3.out _).mono ?_
          rintro e W5 ⟨⟨vc, rfl, hvc⟩, hb5⟩
          have hVc := slice_of_owns hvc
          dsimp only at hVc ⊢
          rw [placed_length, Hn.out] at hVc
          rw [show ((0 : Nat) : Int) = 0 from rfl]
          obtain ⟨ac, cc, hce⟩ := word_slice hVc
          subst hce
          have hbA := (Below.refl W5.heap.size W5).alloc (Nat.le_refl _) (.cells #[.int .i64 0, .int .i64 0] 26)
          have hbB := hb5.trans (hbA.mono hb5.size)
          have HVc6 := hid (hVc.below hbA)
          have HVa6 := hid (HVw.out.below hbB)
          have HB6 := hid (HBz.out.trans (hbB.mono HBz.out.size))
          clear hvc hVc hb5 hbA hbB HVw HBz x0 HI3
          go_wp2_with fail
          obtain ⟨W6, hW6⟩ : ∃ X, W5.alloc (.cells #[.int .i64 0, .int .i64 0] 26) = X := ⟨_, rfl⟩
          rw [hW6] at HVa6 HVc6 HB6 ⊢
          clear hW6 hsz
          go_loopw [12] (fun iv wr => ∃ (j : Nat), j ≤ k ∧ iv = .int .i64 j ∧ Hid (Below W6.heap.size W6 wr)) (fun iv _ => k - (intOf iv).toNat)
          case atStart => exact ⟨0, Nat.zero_le _, rfl, Below.refl _ _⟩
          case round =>
            obtain ⟨j, hj, rfl, HBw⟩ := hrel
            by_cases hjl : (j : Int) < (k : Int)
            · have hjk : j < k := by omega
              obtain ⟨ga, hga, c0, c1, c2⟩ := word_cells (HVa6.out.below HBw.out) hjk
              obtain ⟨gc, hgc, d0, d1, d2⟩ := word_cells (HVc6.out.below HBw.out) hjk
              subst hga hgc
              obtain ⟨hpk, hpt⟩ := placed_at 0 ws j (by rw [Hn.out]; exact hjk)
              rw [hpk] at d0
              rw [hpt] at d1
              generalize ws.getD j default = wd at *
              obtain ⟨kd, tx, pt⟩ := wd
              dsimp only at c0 c1 d0 d1
              have hi0 : (0 : Int) ≤ (j : Int) := by omega
              have HstP := hid (lt_step hjl)
              have HW1 := hid (wrap_succ (x := j) (by have := Hn.out; have := HLen.out; omega))
              have HBd := hid HBw.out.drew
              go_upto_region 23 with fail
              have hS : wr.drew.cell? ⟨ga, j * 3, none⟩ = some (.int .i64 kd) ∧ wr.drew.cell? ⟨ga, j * 3 + 1, none⟩ = some (.string tx) ∧ wr.drew.cell? ⟨gc, j * 3, none⟩ = some (.int .i64 kd) ∧ wr.drew.cell? ⟨gc, j * 3 + 1, none⟩ = some (.string tx) := ⟨c0, c1, d0, d1⟩
              refine pick_begin (S := fun wr => wr.cell? ⟨ga, j * 3, none⟩ = some (.int .i64 kd) ∧ wr.cell? ⟨ga, j * 3 + 1, none⟩ = some (.string tx) ∧ wr.cell? ⟨gc, j * 3, none⟩ = some (.int .i64 kd) ∧ wr.cell? ⟨gc, j * 3 + 1, none⟩ = some (.string tx)) (n := 24) (ls := #[false, false, false, false, false, false, false, false, false, false, false, false, false, false, false, false, false, false, false, false, false, false, false, false]) (by kernel_rfl) rfl (by kernel_rfl) ?_
              clear c0 c1 c2 d0 d1 d2 hpk hpt
              generalize wr.drew = wd at *
              refine pick_op (i := 0) (v := .slice (some ⟨gc, 0, none⟩) k cc) (by kernel_rfl) rfl (by kernel_rfl) (by kernel_rfl) rfl rfl (fun w' hw' => by simp [go_sem]) hS (by simp [go_sem]; exact rfl) ?_
              refine pick_op (i := 1) (v := .int .i64 (j : Int)) (by kernel_rfl) rfl (by kernel_rfl) (by kernel_rfl) rfl rfl (fun w' hw' => by simp [go_sem]) hS (by simp [go_sem]; exact rfl) ?_
              refine pick_op (i := 2) (v := .pointer (some ⟨gc, j * 3, none⟩)) (by kernel_rfl) rfl (by kernel_rfl) (by kernel_rfl) rfl rfl (fun w' hw' => by simp [go_sem, hi0, hjl]) hS (by simp [go_sem]; exact rfl) ?_
              refine pick_op (i := 3) (v := .pointer (some ⟨gc, j * 3, none⟩)) (by kernel_rfl) rfl (by kernel_rfl) (by kernel_rfl) rfl rfl (fun w' hw' => by simp [go_sem]) hS (by simp [go_sem]; exact rfl) ?_
              refine pick_op (i := 4) (v := .int .i64 kd) (by kernel_rfl) rfl (by kernel_rfl) (by kernel_rfl) rfl rfl (fun w' hw' => by obtain ⟨e0, e1, f0, f1⟩ := hw'; simp [go_sem, f0]) hS (by simp [go_sem]; exact rfl) ?_
              refine pick_op (i := 5) (v := .slice (some ⟨ga, 0, none⟩) k ca) (by kernel_rfl) rfl (by kernel_rfl) (by kernel_rfl) rfl rfl (fun w' hw' => by simp [go_sem]) hS (by simp [go_sem]; exact rfl) ?_
              refine pick_op (i := 6) (v := .int .i64 (j : Int)) (by kernel_rfl) rfl (by kernel_rfl) (by kernel_rfl) rfl rfl (fun w' hw' => by simp [go_sem]) hS (by simp [go_sem]; exact rfl) ?_
              refine pick_op (i := 7) (v := .pointer (some ⟨ga, j * 3, none⟩)) (by kernel_rfl) rfl (by kernel_rfl) (by kernel_rfl) rfl rfl (fun w' hw' => by simp [go_sem, hi0, hjl]) hS (by simp [go_sem]; exact rfl) ?_
              refine pick_op (i := 8) (v := .pointer (some ⟨ga, j * 3, none⟩)) (by kernel_rfl) rfl (by kernel_rfl) (by kernel_rfl) rfl rfl (fun w' hw' => by simp [go_sem]) hS (by simp [go_sem]; exact rfl) ?_
              refine pick_op (i := 9) (v := .int .i64 kd) (by kernel_rfl) rfl (by kernel_rfl) (by kernel_rfl) rfl rfl (fun w' hw' => by obtain ⟨e0, e1, f0, f1⟩ := hw'; simp [go_sem, e0]) hS (by simp [go_sem]; exact rfl) ?_
              refine pick_op (i := 10) (v := .bool false) (by kernel_rfl) rfl (by kernel_rfl) (by kernel_rfl) rfl rfl (fun w' hw' => by simp [go_sem]) hS (by simp [go_sem]; exact rfl) ?_
              refine pick_op (i := 11) (v := .bool false) (by kernel_rfl) rfl (by kernel_rfl) (by kernel_rfl) rfl rfl (fun w' hw' => by simp [go_sem]) hS (by simp [go_sem]; exact rfl) ?_
              refine pick_op (i := 12) (v := .slice (some ⟨gc, 0, none⟩) k cc) (by kernel_rfl) rfl (by kernel_rfl) (by kernel_rfl) rfl rfl (fun w' hw' => by simp [go_sem]) hS (by simp [go_sem]; exact rfl) ?_
              refine pick_op (i := 13) (v := .int .i64 (j : Int)) (by kernel_rfl) rfl (by kernel_rfl) (by kernel_rfl) rfl rfl (fun w' hw' => by simp [go_sem]) hS (by simp [go_sem]; exact rfl) ?_
              refine pick_op (i := 14) (v := .pointer (some ⟨gc, j * 3, none⟩)) (by kernel_rfl) rfl (by kernel_rfl) (by kernel_rfl) rfl rfl (fun w' hw' => by simp [go_sem, hi0, hjl]) hS (by simp [go_sem]; exact rfl) ?_
              refine pick_op (i := 15) (v := .pointer (some ⟨gc, j * 3 + 1, none⟩)) (by kernel_rfl) rfl (by kernel_rfl) (by kernel_rfl) rfl rfl (fun w' hw' => by simp [go_sem]) hS (by simp [go_sem]; exact rfl) ?_
              refine pick_op (i := 16) (v := .string tx) (by kernel_rfl) rfl (by kernel_rfl) (by kernel_rfl) rfl rfl (fun w' hw' => by obtain ⟨e0, e1, f0, f1⟩ := hw'; simp [go_sem, f1]) hS (by simp [go_sem]; exact rfl) ?_
              refine pick_op (i := 17) (v := .slice (some ⟨ga, 0, none⟩) k ca) (by kernel_rfl) rfl (by kernel_rfl) (by kernel_rfl) rfl rfl (fun w' hw' => by simp [go_sem]) hS (by simp [go_sem]; exact rfl) ?_
              refine pick_op (i := 18) (v := .int .i64 (j : Int)) (by kernel_rfl) rfl (by kernel_rfl) (by kernel_rfl) rfl rfl (fun w' hw' => by simp [go_sem]) hS (by simp [go_sem]; exact rfl) ?_
              refine pick_op (i := 19) (v := .pointer (some ⟨ga, j * 3, none⟩)) (by kernel_rfl) rfl (by kernel_rfl) (by kernel_rfl) rfl rfl (fun w' hw' => by simp [go_sem, hi0, hjl]) hS (by simp [go_sem]; exact rfl) ?_
              refine pick_op (i := 20) (v := .pointer (some ⟨ga, j * 3 + 1, none⟩)) (by kernel_rfl) rfl (by kernel_rfl) (by kernel_rfl) rfl rfl (fun w' hw' => by simp [go_sem]) hS (by simp [go_sem]; exact rfl) ?_
              refine pick_op (i := 21) (v := .string tx) (by kernel_rfl) rfl (by kernel_rfl) (by kernel_rfl) rfl rfl (fun w' hw' => by obtain ⟨e0, e1, f0, f1⟩ := hw'; simp [go_sem, e1]) hS (by simp [go_sem]; exact rfl) ?_
              refine pick_op (i := 22) (v := .bool false) (by kernel_rfl) rfl (by kernel_rfl) (by kernel_rfl) rfl rfl (fun w' hw' => by simp [go_sem]) hS (by simp [go_sem]; exact rfl) ?_
              refine pick_op (i := 23) (v := .bool false) (by kernel_rfl) rfl (by kernel_rfl) (by kernel_rfl) rfl rfl (fun w' hw' => by simp [go_sem]) hS (by simp [go_sem]; exact rfl) ?_
              refine pick_end (by kernel_rfl) ?_
              clear hS
              go_wp2_with fail
              try rw [HW1.out]
              exact ⟨⟨j + 1, by omega, rfl, HBd⟩, HstP.out⟩
            · have HBe := hid (HB6.out.trans (HBw.out.mono HB6.out.size))
              go_wp2_with fail
              go_ret
              exact ⟨rfl, HBe.out⟩
      · have hcz : (c != 0) = true := by simp [hc0]
        go_wp2_with fail
        go_ret
        exact ⟨rfl, HBz.out⟩
end Go.Proofs.Ytnhofdngmbnlkaa

/- The reader of drawn numbers: opened over bytes, and drawn from. -/
namespace Go.Proofs.Ytnhofdngmbnlkaa
open Go.RowKit

/-- A slice of bytes in a world. -/
def BytesAt (w : World) (a0 : Option Addr) (len : Nat) : Prop :=
  0 < len → ∃ b off, a0 = some ⟨b, off, none⟩ ∧ b < w.heap.size ∧ ∀ i, i < len → ∃ z, w.cell? ⟨b, off + i, none⟩ = some (.int .u8 z) ∧ 0 ≤ z ∧ z ≤ 255

set_option maxRecDepth 100000 in
theorem ropen_calls (a0 : Option Addr) (len cap : Nat) (w : World) (hlen : len ≤ 1000000000) (hb : len ≤ cap) :
    Calls Try.prog 7 #[.slice a0 len cap] w fun e w' => e = .returned (.pointer (some ⟨w.heap.size, 0, none⟩)) ∧
      ∃ n : Nat, n ≤ len ∧ w' = w.alloc (.cells #[.slice a0 n cap, .int .i64 0] 40) := by
  by_cases h : (2000 : Int) < (len : Int)
  · go_enter Try.func7, Try.ntmps7
    go_wp2
    go_ret
    exact ⟨rfl, 2000, by omega, rfl⟩
  · go_enter Try.func7, Try.ntmps7
    go_wp2
    go_ret
    exact ⟨rfl, len, Nat.le_refl _, rfl⟩

/-- The reader of bytes in block 'B', 'q' numbers drawn. -/
structure RdSt (w0 : World) (B : Nat) (a0 : Option Addr) (n cap : Nat) (q : Nat) (w' : World) : Prop where
  cell0 : w'.cell? ⟨B, 0, none⟩ = some (.slice a0 n cap)
  cell1 : w'.cell? ⟨B, 1, none⟩ = some (.int .i64 q)
  frozen : w'.frozen? ⟨B, 1, none⟩ = false
  bytes : 0 < n → ∃ b off, a0 = some ⟨b, off, none⟩ ∧ b ≠ B ∧ ∀ i, i < n → ∃ z, w'.cell? ⟨b, off + i, none⟩ = some (.int .u8 z) ∧ 0 ≤ z ∧ z ≤ 255
  low : w0.heap.size ≤ B
  below : Below w0.heap.size w0 w'

theorem RdSt.drew {w0 : World} {B : Nat} {a0 : Option Addr} {n cap : Nat} {q : Nat} {w' : World} (h : RdSt w0 B a0 n cap q w') : RdSt w0 B a0 n cap q w'.drew :=
  ⟨h.cell0, h.cell1, h.frozen, h.bytes, h.low, h.below.drew⟩

theorem rd_pick {w0 : World} {B : Nat} {a0 : Option Addr} {n cap : Nat} {q : Nat} {w' : World} (h : RdSt w0 B a0 n cap q w') (hq : q ≤ 1000) (k : Nat) (hk : 0 < k) :
    Calls Try.prog 13 #[.pointer (some ⟨B, 0, none⟩), .int .i64 k] w' fun e w2 => ∃ m : Nat, e = .returned (.int .i64 m) ∧ m < k ∧ RdSt w0 B a0 n cap (q + 1) w2 := by
  refine (pick_calls B a0 n cap q k w' h.cell0 h.cell1 h.frozen (by omega) h.bytes).mono ?_
  rintro e w2 ⟨⟨r, rfl, hr0, hr1⟩, hP⟩
  have hr1 := hr1 (by omega)
  refine ⟨r.toNat, by rw [Int.toNat_of_nonneg hr0], by omega, ?_⟩
  refine ⟨hP.cell0.trans h.cell0, by rw [hP.cell1]; push_cast; rfl, hP.frozen.trans h.frozen, ?_, h.low, h.below.trans (hP.below _ h.low)⟩
  intro hn
  obtain ⟨b, off, ea, hb, hz⟩ := h.bytes hn
  refine ⟨b, off, ea, hb, fun i hi => ?_⟩
  rw [hP.other _ hb]
  exact hz i hi

theorem rd_start (w : World) (a0 : Option Addr) (len cap n : Nat) (hn : n ≤ len) (hB : BytesAt w a0 len) :
    RdSt w w.heap.size a0 n cap 0 (w.alloc (.cells #[.slice a0 n cap, .int .i64 0] 40)) where
  cell0 := by simp [go_sem]
  cell1 := by simp [go_sem]
  frozen := by simp [go_sem]
  bytes := by
    intro h
    obtain ⟨b, off, ea, hb, hz⟩ := hB (by omega)
    refine ⟨b, off, ea, by omega, fun i hi => ?_⟩
    obtain ⟨z, hz, h0, h1⟩ := hz i (by omega)
    refine ⟨z, ?_, h0, h1⟩
    rw [← hz]
    exact (((Below.refl w.heap.size w).alloc (Nat.le_refl _) _).cell (p := ⟨b, off + i, none⟩) hb)
  low := Nat.le_refl _
  below := (Below.refl _ _).alloc (Nat.le_refl _) _

theorem rd_open (a0 : Option Addr) (len cap : Nat) (w : World) (hlen : len ≤ 1000000000) (hb : len ≤ cap) (hB : BytesAt w a0 len) :
    Calls Try.prog 7 #[.slice a0 len cap] w fun e w' => e = .returned (.pointer (some ⟨w.heap.size, 0, none⟩)) ∧
      ∃ n : Nat, n ≤ len ∧ RdSt w w.heap.size a0 n cap 0 w' := by
  refine (ropen_calls a0 len cap w hlen hb).mono ?_
  rintro e w' ⟨rfl, n, hn, rfl⟩
  exact ⟨rfl, n, hn, rd_start w a0 len cap n hn hB⟩

theorem BytesAt.below {w w' : World} {a0 : Option Addr} {len : Nat} (h : BytesAt w a0 len) (hb : Below w.heap.size w w') : BytesAt w' a0 len := by
  intro h0
  obtain ⟨b, off, ea, hlt, hz⟩ := h h0
  refine ⟨b, off, ea, Nat.lt_of_lt_of_le hlt hb.size, fun i hi => ?_⟩
  obtain ⟨z, hz, h0, h1⟩ := hz i hi
  exact ⟨z, by rw [← hz]; exact hb.cell (p := ⟨b, off + i, none⟩) hlt, h0, h1⟩
end Go.Proofs.Ytnhofdngmbnlkaa

/- At every bytes the promise on words holds: a drawn text's words, put together with blanks between, are the same words; the bytes unchanged; no condition. -/
namespace Go.Proofs.Ytnhofdngmbnlkaa.fnRailWords
open Go.ChangeShapes Go.WideShapes Go.ChangeAt Go.RowKit Go.Deep

theorem own : ownKnob Try.prog.godebug = none := by kernel_rfl

set_option maxHeartbeats 4000000 in
set_option maxRecDepth 100000 in
theorem draw (a0 : Option Addr) (len cap : Nat) (W : World) (hl : len ≤ 1048576) (hc : len ≤ cap) (hB : BytesAt W a0 len) : Calls Try.prog 4 #[.slice a0 len cap] W fun e W' => ∃ t : ByteArray, e = .returned (.string t) ∧ t.size ≤ 50000 ∧ Below W.heap.size W W' := by
  have HO := hid (ropen_calls a0 len cap W (by omega) hc)
  have HB := hid hB
  clear hB
  go_enter Try.func4, Try.ntmps4
  go_wp2_with fail
  refine HO.out.mono ?_
  rintro e W1 ⟨rfl, m, hm, rfl⟩
  have HR : Hid (Rdr ⟨W.heap.size, W.heap.size, a0, m, cap⟩ (W.alloc (.cells #[.slice a0 m cap, .int .i64 0] 40)) 0) := by
    have hh := (MapKept.heap_alloc W (.cells #[.slice a0 m cap, .int .i64 0] 40)).1
    refine ⟨hh, fun h0 => ?_⟩
    obtain ⟨b, off, ea, hb, hz⟩ := HB.out (show 0 < len by have : 0 < m := h0; omega)
    refine ⟨b, off, ea, ⟨by simp; omega, by show b ≠ W.heap.size; omega, by show b ≠ W.heap.size; omega⟩, fun i hi => ?_⟩
    obtain ⟨z, hz, h1⟩ := hz i (by have : i < m := hi; omega)
    exact ⟨z, (((Below.refl W.heap.size W).alloc (Nat.le_refl _) _).cell (p := ⟨b, off + i, none⟩) hb).trans hz, h1⟩
  have HA := hid (text_calls (d := ⟨W.heap.size, W.heap.size, a0, m, cap⟩) rfl HR.out (by omega))
  have HW : Hid (Below W.heap.size W (W.alloc (.cells #[.slice a0 m cap, .int .i64 0] 40))) := (Below.refl _ _).alloc (Nat.le_refl _) _
  clear HO hm hl hc HB HR
  go_wp2_with fail
  refine HA.out.mono ?_
  rintro e W2 ⟨t, q, rfl, ht, -, -, hg⟩
  have HT := hid ht
  have HG := hid (hg.below (n := W.heap.size) (by simp) (Nat.le_refl _) (Nat.le_refl _))
  clear ht hg HA
  go_wp2_with fail
  go_ret
  exact ⟨_, rfl, HT.out, HW.out.trans HG.out⟩

theorem walk (a0 : Option Addr) (len cap : Nat) (w : World) (hb : len ≤ cap) (hB : BytesAt w a0 len) :
    Calls Try.prog 3 #[.slice a0 len cap] w fun e w' => e = .returned (.bool true) ∧ Below w.heap.size w w' := words_walk a0 len cap w (fun hl => draw a0 len cap w hl hb hB)

theorem spot_none {W : World} {a : Addr} {v : Value} (h : W.cell? a = some v) : a.spot = none := by
  unfold World.cell? at h
  split at h
  · by_cases hs : a.spot.isSome
    · simp [hs] at h
    · simpa using hs
  · cases h

theorem block_lt {W : World} {a : Addr} {v : Value} (h : W.cell? a = some v) : a.block < W.heap.size := by
  unfold World.cell? at h
  split at h
  · rename_i e
    obtain ⟨hlt, _⟩ := Array.getElem?_eq_some_iff.mp e
    exact hlt
  · cases h

theorem cells_u8 : Try.prog.cellsOf 5 = 1 := by kernel_rfl
theorem laidOut : laidOutB Try.prog = true := by kernel_rfl

theorem open_bytes {H : Type} {enc : TypeId × Value → H} {W : World} {sp : Nat → Bool} {held : Bool} {fuel : Nat} {v : Value} {x : DataW H × List MemPlace}
    (h : DataW.trod enc Try.prog W 0 sp held fuel 22 [v] = some x) :
    ∃ a0 len cap, v = .slice a0 len cap ∧ len ≤ cap ∧ len ≤ maxLen ∧ BytesAt W a0 len := by
  rcases open_ints Try.underlying22 Try.underlying5 cells_u8 h with ⟨hc, _⟩ | ⟨a, len, cap, zs, hc, _, hl, hm, hz, _, hcell, hwf⟩
  · simp at hc
    subst hc
    exact ⟨none, 0, 0, rfl, Nat.le_refl _, Nat.zero_le _, fun h => absurd h (by omega)⟩
  · simp at hc
    subst hc
    have hlm : len ≤ zs.length := by rw [hz]; split <;> omega
    refine ⟨some a, len, cap, rfl, hl, by omega, fun h0 => ?_⟩
    have hc0 := hcell 0 (by omega)
    have hs := spot_none hc0
    have hb := block_lt hc0
    obtain ⟨b, off, spot⟩ := a
    have hspot : spot = none := by simpa [Addr.add] using hs
    subst hspot
    refine ⟨b, off, rfl, by simpa [Addr.add] using hb, fun i hi => ?_⟩
    have hci := hcell i (by omega)
    have e : (Addr.add ⟨b, off, none⟩ i) = ⟨b, off + i, none⟩ := by
      unfold Addr.add
      split
      · rename_i h
        subst h
        rfl
      · rfl
    rw [e] at hci
    have hin : zs.getD i 0 ∈ zs := by
      rw [List.getD, List.getElem?_eq_getElem (show i < zs.length by omega)]
      exact List.getElem_mem _
    have hw := hwf _ hin
    simp only [Lit.wf, Bool.and_eq_true, decide_eq_true_eq] at hw
    exact ⟨_, hci, hw.1, hw.2⟩

set_option maxRecDepth 100000 in
theorem lifted (os : Os) (started : os.Started) (H : Type) (enc : TypeId × Value → H) :
    ReturnsInHanded {} Try.checked os 3 .any (Rows.fnRailWordsSpec.pre6 enc Try.prog Try.f3 Rows.fnRailWordsRow.domain false) (Rows.fnRailWordsSpec.post enc Try.prog Try.f3 false true false false) := by
  refine returnsInHanded_of_change (C := Try.checked) own started (by kernel_rfl) Try.func3
    (ChangeSpec.witness6 (enc := enc) (C := Try.checked) false ⟨#[], #[.slice none 0 0], []⟩ 8 (by kernel_rfl) (by kernel_rfl) (by kernel_rfl) (by kernel_rfl)) ?_
  intro W base args ds gs before hval0 hW hcnd _
  have hval : ∀ (j : Nat) t v, Try.f3.params[j]? = some t → args[j]? = some v → Value.okWide Try.prog W .any base t v := hval0
  have hW' := hW
  obtain ⟨p, q, hA0, hV, rfl, hfz, hnd⟩ := hW
  have hA : DataW.TrodAll enc Try.prog W 0 (fun _ => true) true Try.f3.params.toList args.toList ds p := hA0
  rw [Try.params3] at hA hval
  obtain ⟨v0, vs0, d0, ds0, p0, q0, hargs, rfl, rfl, h0, r0⟩ := trodAll_cons hA
  obtain ⟨rfl, rfl, rfl⟩ := trodAll_nil r0
  obtain rfl : args = #[v0] := by cases args; simp_all
  obtain ⟨rfl, rfl⟩ := trodVars_none hV
  clear hA0 hval0
  simp only [List.append_nil] at hW'
  have hlt : ∀ y ∈ p0, y.block < W.heap.size := fun y hy => by simpa using hW'.lt y (by simpa using hy)
  have h0k := h0
  obtain ⟨fuel, hf⟩ := h0
  obtain ⟨a1, len1, cap1, rfl⟩ := okWide_slice Try.underlying22 (hval 0 22 v0 rfl rfl)
  obtain ⟨a0, len, cap, hv, hl, -, hB⟩ := open_bytes (by simpa [Value.cells] using hf)
  cases hv
  refine (walk _ _ _ W hl hB).mono fun e W' ⟨he, hg⟩ => ?_
  subst he
  refine ⟨_, rfl, _, _, _, [], p0, [], hW', ?_, ?_, rfl, hg.frame _, fun h => by cases h⟩
  · exact trodAll_cons_mk (shut_bool Try.underlying4 _) trodAll_mk0
  · exact trodAll_mk1 (Below.trod laidOut (by kernel_rfl) (of_decide_eq_true (by kernel_rfl)) h0k hg hlt)

theorem over : Rows.fnRailWordsRow.holds Try.pinned (OpenSpec.ofChange Rows.fnRailWordsSpec) :=
  OpenClaim.holds_of_wide 3 Try.f3 rfl rfl rfl rfl rfl rfl rfl ⟨rfl, rfl, rfl, rfl, rfl⟩ rfl rfl rfl rfl rfl (by kernel_rfl) Try.func3 (by kernel_rfl)
    (of_decide_eq_true (by kernel_rfl)) (by unfold Func.isWrapper; first | (rw [if_pos (by decide +kernel)]; kernel_rfl) | (rw [if_neg (by decide +kernel)]; exact ⟨rfl, rfl⟩))
    (fun os started H enc _ => lifted os started H enc)

theorem proved : Rows.FnRailWordsSaid := over

#print axioms proved
end Go.Proofs.Ytnhofdngmbnlkaa.fnRailWords
