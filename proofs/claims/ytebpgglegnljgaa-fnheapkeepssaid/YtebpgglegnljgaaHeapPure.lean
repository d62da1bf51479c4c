/- What lies where in a heap, in plain words: objects behind one another, and what they lead to. -/
import Derived.Test.YtebpgglegnljgaaHeapVal
import Derived.Test.YtebpgglegnljgaaKindWalks
import Derived.Test.YtebpgglegnljgaaWordWalks
namespace Go.Proofs.Ytebpgglegnljgaa
open Go.RowKit

/-- How many words an object has by its first one; 0: it is none. -/
def sizeZ (x : Int) : Int :=
  if x % 16 = 15 then (if x / 16 = 3 ∨ x / 16 = 6 then x / 16 else 0)
  else if fieldsZ (x % 16) = 0 ∨ x / 16 ≠ 1 + fieldsZ (x % 16) then 0 else x / 16

theorem fields_three (k : Int) : fieldsZ k = 0 ∨ fieldsZ k = 2 ∨ fieldsZ k = 5 := by
  unfold fieldsZ
  split
  · simp
  · split <;> simp

theorem size_three (x : Int) : sizeZ x = 0 ∨ sizeZ x = 3 ∨ sizeZ x = 6 := by
  unfold sizeZ
  have := fields_three (x % 16)
  split
  · split
    · omega
    · simp
  · split
    · simp
    · omega

def sizeN (x : Int) : Nat := (sizeZ x).toNat

theorem sizeN_cast (x : Int) : (sizeN x : Int) = sizeZ x := by
  have := size_three x
  unfold sizeN
  omega

theorem sizeN_le (x : Int) : sizeN x ≤ 6 := by
  have := size_three x
  unfold sizeN
  omega

/-- Objects behind one another from a place up to another: their sizes are noted where they begin. -/
def lay (ws : List Int) (p to : Nat) (S : List Int) : Option (List Int) :=
  if _h : p < to then
    if _hn : sizeN (ws.getD p 0) = 0 ∨ to < p + sizeN (ws.getD p 0) then none
    else lay ws (p + sizeN (ws.getD p 0)) to (S.set p (sizeN (ws.getD p 0)))
  else some S
termination_by to - p
decreasing_by omega

theorem lay_end (ws : List Int) {p to : Nat} (S : List Int) (h : ¬ p < to) : lay ws p to S = some S := by
  rw [lay, dif_neg h]

theorem lay_bad (ws : List Int) {p to : Nat} (S : List Int) (h : p < to) (hn : sizeN (ws.getD p 0) = 0 ∨ to < p + sizeN (ws.getD p 0)) : lay ws p to S = none := by
  rw [lay, dif_pos h, dif_pos hn]

theorem lay_next (ws : List Int) {p to : Nat} (S : List Int) (h : p < to) (hn : ¬ (sizeN (ws.getD p 0) = 0 ∨ to < p + sizeN (ws.getD p 0))) :
    lay ws p to S = lay ws (p + sizeN (ws.getD p 0)) to (S.set p (sizeN (ws.getD p 0))) := by
  rw [lay, dif_pos h, dif_neg hn]

/-- What is noted is right. -/
def Noted (ws S : List Int) : Prop := S.length = ws.length ∧ ∀ a, S.getD a 0 ≠ 0 → a < ws.length ∧ S.getD a 0 = sizeZ (ws.getD a 0) ∧ a + sizeN (ws.getD a 0) ≤ ws.length

theorem getD_set (S : List Int) (p a : Nat) (x : Int) : (S.set p x).getD a 0 = if a = p ∧ p < S.length then x else S.getD a 0 := by
  simp only [List.getD, List.getElem?_set]
  by_cases h : a = p
  · subst h
    by_cases h2 : a < S.length
    · simp [h2]
    · simp [h2]
  · have h' : ¬ p = a := fun e => h e.symm
    simp [h, h']

theorem lay_noted {ws : List Int} {p to : Nat} {S S' : List Int} (hto : to ≤ ws.length) (hS : Noted ws S) (h : lay ws p to S = some S') : Noted ws S' := by
  by_cases hp : p < to
  · by_cases hn : sizeN (ws.getD p 0) = 0 ∨ to < p + sizeN (ws.getD p 0)
    · rw [lay_bad ws S hp hn] at h
      cases h
    · rw [lay_next ws S hp hn] at h
      refine lay_noted hto ?_ h
      refine ⟨by simpa using hS.1, fun a ha => ?_⟩
      rw [getD_set] at ha ⊢
      split at ha
      · rename_i hc
        obtain ⟨rfl, _⟩ := hc
        rw [if_pos ⟨rfl, by assumption⟩]
        exact ⟨by omega, sizeN_cast _, by omega⟩
      · rename_i hc
        rw [if_neg hc]
        exact hS.2 a ha
  · rw [lay_end ws S hp] at h
    cases h
    exact hS
termination_by to - p
decreasing_by omega

/-- Only places from p on and below to are noted. -/
theorem lay_else {ws : List Int} {p to : Nat} {S S' : List Int} (h : lay ws p to S = some S') (a : Nat) (ha : a < p ∨ to ≤ a) : S'.getD a 0 = S.getD a 0 := by
  by_cases hp : p < to
  · by_cases hn : sizeN (ws.getD p 0) = 0 ∨ to < p + sizeN (ws.getD p 0)
    · rw [lay_bad ws S hp hn] at h
      cases h
    · rw [lay_next ws S hp hn] at h
      rw [lay_else h a (by omega), getD_set, if_neg (by omega)]
  · rw [lay_end ws S hp] at h
    cases h
    rfl
termination_by to - p
decreasing_by omega

def inZ (h : HpN) (a : Int) : Bool := decide (h.to ≤ a ∧ a < h.to + h.size)

def specLeads (ws S : List Int) (h : HpN) (x : Int) (old : Bool) : Bool :=
  if x % 8 ≠ 0 then decide (x % 8 ≤ 4)
  else if x / 8 < 0 ∨ (ws.length : Int) ≤ x / 8 ∨ S.getD (x / 8).toNat 0 = 0 then false
  else (inZ h (x / 8) && decide (ws.getD (x / 8).toNat 0 % 16 ≠ 15)) || (!inZ h (x / 8) && old)

/-- The numbers of a heap are in order. -/
def Ordered (h : HpN) (len : Nat) : Prop :=
  20 ≤ h.size ∧ h.size ≤ 4000 ∧ (len : Int) = 2 * h.size ∧ (h.to = 0 ∨ h.to = h.size) ∧ 0 ≤ h.flips ∧ 0 ≤ h.touched ∧
  h.to ≤ h.scan ∧ h.scan ≤ h.bottom ∧ h.bottom ≤ h.top ∧ h.top ≤ h.to + h.size ∧
  h.size - h.to ≤ h.fb ∧ h.fb ≤ h.ft ∧ h.ft ≤ h.size - h.to + h.size

instance (h : HpN) (len : Nat) : Decidable (Ordered h len) := by unfold Ordered; infer_instance

/-- A slice of bools that tell whether something is noted, wherever it begins in its block. -/
def boolCells (S : List Int) (i : Nat) : Value := .bool (S.getD i 0 != 0)
end Go.Proofs.Ytebpgglegnljgaa
