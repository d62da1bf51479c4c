/- Names that a tree makes known, those that stand free, and those that are named anew: in plain words. -/
import Derived.Test.YtgiejnmphfgmgaaGreatDoorPureForest
import Derived.Lib.ItoaLen
namespace Go.Proofs.YtgiejnmphfgmgaaGreatDoor
open Go.RowKit

/-- Names that are known and what they are called now, the innermost first. -/
abbrev Sco := List (ByteArray × ByteArray)

def findS : Sco → ByteArray → Option ByteArray
  | [], _ => none
  | (x, y) :: r, s => if x = s then some y else findS r s

/-- The names that a node makes known in a kid. -/
def knownZ (n : Nd) (i : Nat) : List ByteArray :=
  if n.kind = 6 ∨ n.kind = 25 then [n.a]
  else if (n.kind = 8 ∧ i = 1) ∨ (n.kind = 9 ∧ i = 1) then [n.a]
  else if n.kind = 9 ∨ (n.kind = 20 ∧ i = 2) then [n.a, n.b]
  else if n.kind = 26 then [n.b, n.c]
  else []

theorem knownZ_len (n : Nd) (i : Nat) : (knownZ n i).length ≤ 2 := by
  unfold knownZ
  repeat' split
  all_goals simp

/-- Kids of the same kind make as many names known. -/
theorem knownZ_same {n m : Nd} (h : n.kind = m.kind) (i : Nat) : (knownZ n i).length = (knownZ m i).length := by
  unfold knownZ
  rw [h]
  repeat' split
  all_goals rfl

/-- The name that is made so many names behind the first. -/
def freshZ (m : Nat) : ByteArray := ⟨(118 :: Lib.itoa (m : Int)).toArray⟩

/-- How many names a node makes anew. -/
def makesZ (k : Int) : Nat := if k = 6 ∨ k = 8 ∨ k = 25 then 1 else if k = 9 ∨ k = 20 ∨ k = 26 then 2 else 0

/-- A node with its names named anew. -/
def renZ (n : Nd) (sc : Sco) (made : Nat) : Nd :=
  if n.kind = 5 then { n with a := (findS sc n.a).getD ⟨#[]⟩ }
  else if n.kind = 6 ∨ n.kind = 8 ∨ n.kind = 25 then { n with a := freshZ made }
  else if n.kind = 9 ∨ n.kind = 20 then { n with a := freshZ made, b := freshZ (made + 1) }
  else if n.kind = 26 then { n with b := freshZ made, c := freshZ (made + 1) }
  else n

theorem renZ_kind (n : Nd) (sc : Sco) (made : Nat) : (renZ n sc made).kind = n.kind := by
  unfold renZ
  repeat' split
  all_goals rfl

/-- The name that is found free at a node. -/
def lostZ (n : Nd) (sc : Sco) : List ByteArray := if n.kind = 5 ∧ findS sc n.a = none then [n.a] else []

/-- What the walk has: the nodes named anew, the names found free, how many were made. -/
structure Wst where
  plain : List Nd
  free : List ByteArray
  made : Nat

def stepW (n : Nd) (sc : Sco) (s : Wst) : Wst := ⟨s.plain ++ [renZ n sc s.made], s.free ++ lostZ n sc, s.made + makesZ n.kind⟩

/-- The names known in a kid. -/
def openS (old new : Nd) (i : Nat) (sc : Sco) : Sco := ((knownZ old i).zip (knownZ new i)).foldl (fun s p => p :: s) sc

/-- The kids of a node from the one at i on. -/
def kidsW (old new : Nd) : Nat → Fo → Sco → Wst → Wst
  | _, .none, _, s => s
  | i, .tree n k r, sc, s =>
    kidsW old new (i + 1) r sc (kidsW n (renZ n (openS old new i sc) s.made) 0 k (openS old new i sc) (stepW n (openS old new i sc) s))

/-- A tree. -/
def walkW (n : Nd) (k : Fo) (sc : Sco) (s : Wst) : Wst := kidsW n (renZ n sc s.made) 0 k sc (stepW n sc s)

theorem kidsW_plain (old new : Nd) : ∀ (f : Fo) (i : Nat) (sc : Sco) (s : Wst), (kidsW old new i f sc s).plain.length = s.plain.length + f.flat.length ∧ (kidsW old new i f sc s).free.length ≤ s.free.length + f.flat.length ∧ (kidsW old new i f sc s).made ≤ s.made + 2 * f.flat.length := by
  intro f
  induction f generalizing old new with
  | none =>
    intro i sc s
    simp [kidsW, Fo.flat]
  | tree n k r ihk ihr =>
    intro i sc s
    have h1 := ihk n (renZ n (openS old new i sc) s.made) 0 (openS old new i sc) (stepW n (openS old new i sc) s)
    have h2 := ihr old new (i + 1) sc (kidsW n (renZ n (openS old new i sc) s.made) 0 k (openS old new i sc) (stepW n (openS old new i sc) s))
    have hm : makesZ n.kind ≤ 2 := by
      unfold makesZ
      repeat' split
      all_goals omega
    have hf : (lostZ n (openS old new i sc)).length ≤ 1 := by
      unfold lostZ
      split <;> simp
    have hs1 : (stepW n (openS old new i sc) s).plain.length = s.plain.length + 1 := by simp [stepW]
    have hs2 : (stepW n (openS old new i sc) s).free.length ≤ s.free.length + 1 := by simp only [stepW, List.length_append]; omega
    have hs3 : (stepW n (openS old new i sc) s).made ≤ s.made + 2 := by simp only [stepW]; omega
    simp only [kidsW, Fo.flat, List.length_cons, List.length_append]
    omega
end Go.Proofs.YtgiejnmphfgmgaaGreatDoor
