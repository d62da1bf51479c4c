/- Where clauses stand: the specification's walk from the top, and the program's over every node's kids, come to the same. -/
import Derived.Test.YtgiejnmphfgmgaaGreatDoorPureForest
namespace Go.Proofs.YtgiejnmphfgmgaaGreatDoor
open Go.RowKit

/-- What a kid must be: 1 what a handler gives, 2 an operation, 0 an expression. -/
def role (pk : Int) (i : Nat) : Nat := if pk = 23 ∨ pk = 24 then (if 2 < i then 2 else i) else 0

/-- An operation's two names differ. -/
def ok26 (n : Nd) : Bool := !(n.kind == 26 && n.b.toList == n.c.toList)

def headOk (n : Nd) (c : Nat) : Bool := ((n.kind == 25) == (c == 1)) && ((n.kind == 26) == (c == 2)) && ok26 n

def isIn (ops : List ByteArray) (s : ByteArray) : Bool := ops.any (fun x => x.toList == s.toList)

def specKids : Fo → Int → Nat → List ByteArray → Bool
  | .none, _, _, _ => true
  | .tree n k r, pk, i, ops => headOk n (role pk i) && (specKids k n.kind 0 [] && (if role pk i = 2 then !isIn ops n.a && specKids r pk (i + 1) (ops ++ [n.a]) else specKids r pk (i + 1) ops))

def clauseZ (k : Int) : Int := if k = 25 ∨ k = 26 then k else 0

def wantedZ (pk : Int) (i : Nat) : Int := if ¬ (pk = 23 ∨ pk = 24) ∨ i = 0 then 0 else if i = 1 then 25 else 26

def implKids : Fo → Int → Nat → List ByteArray → Bool
  | .none, _, _, _ => true
  | .tree n _ r, pk, i, ops => (clauseZ n.kind == wantedZ pk i) && (!isIn ops n.a && implKids r pk (i + 1) (if n.kind = 26 then ops ++ [n.a] else ops))

def implAll : Fo → Bool
  | .none => true
  | .tree n k r => implKids k n.kind 0 [] && (implAll k && implAll r)

theorem role_le (pk : Int) (i : Nat) : role pk i ≤ 2 := by
  unfold role
  split <;> (try split) <;> omega

theorem role_next {pk : Int} {i : Nat} (h : role pk i = 2) : role pk (i + 1) = 2 := by
  unfold role at *
  split at h
  · rename_i hp
    rw [if_pos hp]
    split at h <;> split <;> omega
  · omega

theorem wanted_role (pk : Int) (i : Nat) : wantedZ pk i = if role pk i = 1 then 25 else if role pk i = 2 then 26 else 0 := by
  unfold wantedZ role
  by_cases hp : pk = 23 ∨ pk = 24
  · simp only [hp, not_true_eq_false, false_or, if_true]
    by_cases h0 : i = 0
    · simp [h0]
    · by_cases h1 : i = 1
      · simp [h1]
      · have h2 : (if 2 < i then 2 else i) = 2 := by split <;> omega
        simp [h0, h1, h2]
  · simp [hp]

theorem head_eq (n : Nd) (pk : Int) (i : Nat) (h : ok26 n = true) : headOk n (role pk i) = (clauseZ n.kind == wantedZ pk i) := by
  have hr := role_le pk i
  rw [wanted_role, headOk, h, Bool.and_true]
  unfold clauseZ
  generalize role pk i = c at *
  have hc : c = 0 ∨ c = 1 ∨ c = 2 := by omega
  by_cases h5 : n.kind = 25
  · rw [h5]
    rcases hc with rfl | rfl | rfl <;> rfl
  · by_cases h6 : n.kind = 26
    · rw [h6]
      rcases hc with rfl | rfl | rfl <;> rfl
    · have e5 : (n.kind == 25) = false := by rw [beq_eq_false_iff_ne]; exact h5
      have e6 : (n.kind == 26) = false := by rw [beq_eq_false_iff_ne]; exact h6
      rw [e5, e6, if_neg (by omega)]
      rcases hc with rfl | rfl | rfl <;> rfl

theorem head_op {n : Nd} {c : Nat} (h : headOk n c = true) : n.kind = 26 ↔ c = 2 := by
  simp only [headOk, Bool.and_eq_true, beq_iff_eq] at h
  have := h.1.2
  constructor
  · intro hk
    rw [hk] at this
    simpa using this
  · intro hc
    rw [hc] at this
    simpa using this

theorem clauses_eq : ∀ (f : Fo) (pk : Int) (i : Nat) (ops : List ByteArray), f.flat.all ok26 = true → (ops = [] ∨ role pk i = 2) → specKids f pk i ops = (implKids f pk i ops && implAll f)
  | .none, _, _, _, _, _ => rfl
  | .tree n k r, pk, i, ops, ha, ho => by
    simp only [Fo.flat, List.all_cons, List.all_append, Bool.and_eq_true] at ha
    obtain ⟨hn, hk, hr⟩ := ha
    simp only [specKids, implKids, implAll]
    rw [clauses_eq k n.kind 0 [] hk (Or.inl rfl), ← head_eq n pk i hn]
    cases hh : headOk n (role pk i) with
    | false => simp
    | true =>
      have hop := head_op hh
      by_cases hc : role pk i = 2
      · rw [if_pos hc, if_pos (hop.2 hc), clauses_eq r pk (i + 1) _ hr (Or.inr (role_next hc))]
        cases isIn ops n.a <;> cases implKids k n.kind 0 [] <;> cases implAll k <;> cases implAll r <;> cases implKids r pk (i + 1) (ops ++ [n.a]) <;> rfl
      · have he : ops = [] := ho.resolve_right hc
        subst he
        rw [if_neg hc, if_neg (fun x => hc (hop.1 x)), clauses_eq r pk (i + 1) _ hr (Or.inl rfl)]
        have : isIn [] n.a = false := rfl
        rw [this]
        cases implKids k n.kind 0 [] <;> cases implAll k <;> cases implAll r <;> cases implKids r pk (i + 1) [] <;> rfl

theorem spec_unlike : ∀ (f : Fo) (pk : Int) (i : Nat) (ops : List ByteArray), specKids f pk i ops = true → f.flat.all ok26 = true
  | .none, _, _, _, _ => rfl
  | .tree n k r, pk, i, ops, h => by
    simp only [specKids, Bool.and_eq_true] at h
    obtain ⟨h1, h2, h3⟩ := h
    have e1 : ok26 n = true := by
      simp only [headOk, Bool.and_eq_true] at h1
      exact h1.2
    have e2 := spec_unlike k _ _ _ h2
    have e3 : r.flat.all ok26 = true := by
      split at h3
      · simp only [Bool.and_eq_true] at h3
        exact spec_unlike r _ _ _ h3.2
      · exact spec_unlike r _ _ _ h3
    simp only [Fo.flat, List.all_cons, List.all_append, e1, e2, e3, Bool.and_self]

/-- The whole tree: its top an expression. -/
def specTree (n : Nd) (k : Fo) (c : Nat) : Bool := headOk n c && specKids k n.kind 0 []

def implTree (n : Nd) (k : Fo) : Bool := (clauseZ n.kind == 0) && (implKids k n.kind 0 [] && implAll k)

theorem trees_eq (n : Nd) (k : Fo) : specTree n k 0 = (implTree n k && (n :: k.flat).all ok26) := by
  unfold specTree implTree
  rw [List.all_cons]
  cases hn : ok26 n with
  | false => simp [headOk, hn]
  | true =>
    have e : headOk n 0 = (clauseZ n.kind == 0) := head_eq n 0 0 hn
    rw [e]
    cases hk : k.flat.all ok26 with
    | true =>
      rw [clauses_eq k n.kind 0 [] hk (Or.inl rfl)]
      simp
    | false =>
      have : specKids k n.kind 0 [] = false := by
        cases hs : specKids k n.kind 0 [] with
        | false => rfl
        | true => rw [spec_unlike k _ _ _ hs] at hk; cases hk
      rw [this]
      simp
end Go.Proofs.YtgiejnmphfgmgaaGreatDoor
