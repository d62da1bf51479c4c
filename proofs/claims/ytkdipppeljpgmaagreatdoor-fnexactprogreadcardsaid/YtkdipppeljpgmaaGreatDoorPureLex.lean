/- Words of a text as plain functions of its bytes: runs of digits and letters, signs, the word at a place. -/
import Derived.Test.YtkdipppeljpgmaaGreatDoorKeyWalks
import Derived.Test.YtkdipppeljpgmaaGreatDoorCharWalks
namespace Go.Proofs.YtkdipppeljpgmaaGreatDoor
open Go.RowKit

def okb (l : Bool) (x : Int) : Bool := digitZ x || (l && letterZ x)

/-- From p to e it is a run, as long as can be. -/
def IsRun (s : ByteArray) (l : Bool) (p e : Nat) : Prop :=
  p ≤ e ∧ e ≤ s.size ∧ (∀ j, p ≤ j → j < e → okb l (bz s j) = true) ∧ (e < s.size → okb l (bz s e) = false)

theorem IsRun.unique {s : ByteArray} {l : Bool} {p e e' : Nat} (h : IsRun s l p e) (h' : IsRun s l p e') : e = e' := by
  obtain ⟨h1, h2, h3, h4⟩ := h
  obtain ⟨g1, g2, g3, g4⟩ := h'
  rcases Nat.lt_trichotomy e e' with hlt | heq | hlt
  · have a := g3 e h1 hlt
    have b := h4 (by omega)
    rw [a] at b
    cases b
  · exact heq
  · have a := h3 e' g1 hlt
    have b := g4 (by omega)
    rw [a] at b
    cases b

def runGo (s : ByteArray) (l : Bool) : Nat → Nat → Nat
  | 0, p => p
  | f + 1, p => if p < s.size ∧ okb l (bz s p) = true then runGo s l f (p + 1) else p

def runTo (s : ByteArray) (l : Bool) (p : Nat) : Nat := runGo s l (s.size - p) p

theorem isRun_go (s : ByteArray) (l : Bool) : ∀ (f p : Nat), p + f = s.size → IsRun s l p (runGo s l f p)
  | 0, p, h => ⟨Nat.le_refl _, by simp [runGo]; omega, fun j h1 h2 => by simp [runGo] at h2; omega, fun h' => by simp [runGo] at h'; omega⟩
  | f + 1, p, h => by
    unfold runGo
    split
    · rename_i hc
      obtain ⟨h1, h2, h3, h4⟩ := isRun_go s l f (p + 1) (by omega)
      refine ⟨by omega, h2, fun j hj1 hj2 => ?_, h4⟩
      by_cases e : j = p
      · rw [e]
        exact hc.2
      · exact h3 j (by omega) hj2
    · rename_i hc
      refine ⟨Nat.le_refl _, by omega, fun j h1 h2 => by omega, fun h' => ?_⟩
      cases hk : okb l (bz s p) with
      | false => rfl
      | true => exact absurd ⟨h', hk⟩ hc

theorem isRun_runTo (s : ByteArray) (l : Bool) {p : Nat} (h : p ≤ s.size) : IsRun s l p (runTo s l p) := isRun_go s l _ p (by omega)

theorem IsRun.eq {s : ByteArray} {l : Bool} {p e : Nat} (h : IsRun s l p e) : e = runTo s l p := h.unique (isRun_runTo s l (Nat.le_trans h.1 h.2.1))

def signBytes : List (List UInt8) := [[45, 62], [61, 62], [58, 58], [40], [41], [44], [43], [45], [42], [61], [60], [124], [58], [59]]

def signStrs : List ByteArray := signBytes.map fun l => ⟨l.toArray⟩

/-- Does this text begin so? -/
def signHit (t g : ByteArray) : Bool := decide (g.size ≤ t.size) && ((t.extract 0 g.size).toList == g.toList)

/-- The sign with which a text begins, empty if there is none. -/
def signOf (t : ByteArray) : ByteArray := (signStrs.find? (signHit t)).getD ByteArray.empty

/-- A word: its kind, its bytes, its place. -/
structure Wd where
  kind : Int
  text : ByteArray
  at_ : Nat

instance : Inhabited Wd := ⟨⟨0, ByteArray.empty, 0⟩⟩

/-- The word at a place and where it ends, or what is wrong. -/
def wordAt (s : ByteArray) (p : Nat) : Except Int (Wd × Nat) :=
  if digitZ (bz s p) = true then
    let e := runTo s false p
    if 9 < e - p ∨ (bz s p = 48 ∧ 1 < e - p) then .error 3 else .ok (⟨1, s.extract p e, p⟩, e)
  else if letterZ (bz s p) = true then
    let e := runTo s true p
    if 8 < e - p then .error 4 else .ok (⟨if isKey (s.extract p e) then 3 else 2, s.extract p e, p⟩, e)
  else
    let g := signOf (s.extract p s.size)
    if g.size = 0 then .error 2 else .ok (⟨4, g, p⟩, p + g.size)

/-- What a word at a place is told by. -/
def wordVal : Except Int (Wd × Nat) → Value
  | .error c => .tuple #[.agg #[.int .i64 0, .string ⟨#[]⟩, .int .i64 0], .int .i64 0, .int .i64 c]
  | .ok (d, e) => .tuple #[.agg #[.int .i64 d.kind, .string d.text, .int .i64 d.at_], .int .i64 e, .int .i64 0]

theorem signOf_hit {t g : ByteArray} {k : Nat} (hk : k < 14) (hg : signStrs.getD k ByteArray.empty = g) (hh : signHit t g = true) (hno : ∀ j, j < k → signHit t (signStrs.getD j ByteArray.empty) = false) : signOf t = g := by
  have hl : signStrs.length = 14 := rfl
  have e : ∀ j, j < 14 → signStrs[j]? = some (signStrs.getD j ByteArray.empty) := fun j hj => by simp [List.getD, List.getElem?_eq_getElem (show j < signStrs.length by omega)]
  unfold signOf
  have : signStrs.find? (signHit t) = some g := by
    rw [List.find?_eq_some_iff_getElem]
    refine ⟨hh, k, by omega, ?_, fun j hj => ?_⟩
    · have := e k hk
      rw [List.getElem?_eq_getElem (show k < signStrs.length by omega)] at this
      rw [hg] at this
      exact Option.some.inj this
    · have h1 := e j (by omega)
      rw [List.getElem?_eq_getElem (show j < signStrs.length by omega)] at h1
      rw [Option.some.inj h1, hno j hj]
      rfl
  rw [this]
  rfl

theorem signOf_none {t : ByteArray} (hno : ∀ j, j < 14 → signHit t (signStrs.getD j ByteArray.empty) = false) : signOf t = ByteArray.empty := by
  unfold signOf
  have : signStrs.find? (signHit t) = none := by
    rw [List.find?_eq_none]
    intro x hx
    obtain ⟨j, hj, rfl⟩ := List.getElem_of_mem hx
    have hl : signStrs.length = 14 := rfl
    have h1 := hno j (by omega)
    have e : signStrs.getD j ByteArray.empty = signStrs[j] := by simp [List.getD, List.getElem?_eq_getElem hj]
    rw [e] at h1
    simp [h1]
  rw [this]
  rfl

theorem signOf_size (t : ByteArray) : (signOf t).size ≤ 2 := by
  unfold signOf
  cases h : signStrs.find? (signHit t) with
  | none => decide
  | some x =>
    have hx := List.mem_of_find?_eq_some h
    have : ∀ x ∈ signStrs, x.size ≤ 2 := by decide
    exact this x hx

theorem wordAt_end {s : ByteArray} {p : Nat} {d : Wd} {e : Nat} (hp : p < s.size) (h : wordAt s p = .ok (d, e)) : p < e ∧ e ≤ p + 9 := by
  unfold wordAt at h
  by_cases hd : digitZ (bz s p) = true
  · obtain ⟨h1, h2, h3, h4⟩ := isRun_runTo s false (p := p) (by omega)
    rw [if_pos hd] at h
    dsimp only at h
    split at h
    · cases h
    · cases h
      have : p ≠ runTo s false p := fun e => by
        have := h4 (by omega)
        rw [← e, okb, hd] at this
        simp at this
      omega
  · rw [if_neg hd] at h
    by_cases hL : letterZ (bz s p) = true
    · obtain ⟨h1, h2, h3, h4⟩ := isRun_runTo s true (p := p) (by omega)
      rw [if_pos hL] at h
      dsimp only at h
      split at h
      · cases h
      · cases h
        have : p ≠ runTo s true p := fun e => by
          have := h4 (by omega)
          rw [← e, okb, hL] at this
          simp at this
        omega
    · rw [if_neg hL] at h
      dsimp only at h
      have := signOf_size (s.extract p s.size)
      split at h
      · cases h
      · cases h
        omega

/-- May stand between words. -/
def blankZ (x : Int) : Bool := x == 32 || x == 10

/-- The words from a place on, behind those that are there; or what is wrong, and where. -/
def lexGo (s : ByteArray) : Nat → Nat → List Wd → List Wd × Int × Nat
  | 0, _, ws => (ws, 0, 0)
  | f + 1, p, ws =>
    if p < s.size then
      if blankZ (bz s p) = true then lexGo s f (p + 1) ws
      else match wordAt s p with
        | .error c => ([], c, p)
        | .ok (d, e) => lexGo s f e (ws ++ [d])
    else (ws, 0, 0)

def lexAll (s : ByteArray) : List Wd × Int × Nat := if 1500 < s.size then ([], 1, 0) else lexGo s s.size 0 []

theorem lexGo_end {s : ByteArray} {p : Nat} (h : ¬ p < s.size) : ∀ (f : Nat) (ws : List Wd), lexGo s f p ws = (ws, 0, 0)
  | 0, _ => rfl
  | f + 1, ws => by rw [lexGo, if_neg h]

theorem lexGo_blank {s : ByteArray} {f p : Nat} {ws : List Wd} (h : p < s.size) (hb : blankZ (bz s p) = true) : lexGo s (f + 1) p ws = lexGo s f (p + 1) ws := by
  rw [lexGo, if_pos h, if_pos hb]

theorem lexGo_bad {s : ByteArray} {f p : Nat} {ws : List Wd} {c : Int} (h : p < s.size) (hb : ¬ blankZ (bz s p) = true) (hw : wordAt s p = .error c) : lexGo s (f + 1) p ws = ([], c, p) := by
  rw [lexGo, if_pos h, if_neg hb, hw]

theorem lexGo_word {s : ByteArray} {f p e : Nat} {ws : List Wd} {d : Wd} (h : p < s.size) (hb : ¬ blankZ (bz s p) = true) (hw : wordAt s p = .ok (d, e)) : lexGo s (f + 1) p ws = lexGo s f e (ws ++ [d]) := by
  rw [lexGo, if_pos h, if_neg hb, hw]

/-- Words as their cells, one behind the other. -/
def flatW : List Wd → List Value
  | [] => []
  | d :: r => .int .i64 d.kind :: .string d.text :: .int .i64 d.at_ :: flatW r

theorem flatW_append : ∀ (a b : List Wd), flatW (a ++ b) = flatW a ++ flatW b
  | [], _ => rfl
  | d :: r, b => by simp [flatW, flatW_append r b]

theorem flatW_length : ∀ (a : List Wd), (flatW a).length = a.length * 3
  | [] => rfl
  | d :: r => by simp [flatW, flatW_length r]; omega

end Go.Proofs.YtkdipppeljpgmaaGreatDoor
