/- Reading code from bytes, as plain lists. -/
import Derived.Test.YtmjcifaihmecmaaReadNum
import Derived.Test.YtmjcifaihmecmaaInsImpl
namespace Go.Proofs.Ytmjcifaihmecmaa
open Go.RowKit

def insMany (op : Int) : Nat := (numsZ op).toNat

theorem insMany_le (op : Int) : insMany op ≤ 3 := by
  unfold insMany numsZ
  repeat' split
  all_goals omega

theorem many_eq (op : Int) : (manyZ op).toNat = insMany op := by
  unfold insMany
  rw [numsZ_many]
  split <;> omega

/-- Four of these bytes from there on, as a number. -/
def numAt (r : List Int) (k : Nat) : Int := num4 (r.getD k 0) (r.getD (k + 1) 0) (r.getD (k + 2) 0) (r.getD (k + 3) 0)

/-- The instruction that begins with op, its numbers in r. -/
def insOf (op : Int) (r : List Int) : In :=
  ⟨op, if 0 < insMany op then numAt r 0 else 0, if 1 < insMany op then numAt r 4 else 0, if 2 < insMany op then numAt r 8 else 0⟩

def parseGo : Nat → List Int → Option (List In)
  | _, [] => some []
  | 0, _ :: _ => none
  | f + 1, op :: r => if 4 * insMany op ≤ r.length then (parseGo f (r.drop (4 * insMany op))).map (insOf op r :: ·) else none

theorem parse_fuel : ∀ (f g : Nat) (l : List Int), l.length ≤ f → l.length ≤ g → parseGo f l = parseGo g l
  | _, _, [], _, _ => by simp [parseGo]
  | 0, _, _ :: _, h, _ => by simp at h
  | _, 0, _ :: _, _, h => by simp at h
  | f + 1, g + 1, op :: r, h, h' => by
    simp only [List.length_cons] at h h'
    rw [parseGo, parseGo, parse_fuel f g (r.drop (4 * insMany op)) (by simp; omega) (by simp; omega)]

def parse (l : List Int) : Option (List In) := parseGo l.length l

theorem parse_nil : parse [] = some [] := rfl

theorem parse_cons (op : Int) (r : List Int) : parse (op :: r) = if 4 * insMany op ≤ r.length then (parse (r.drop (4 * insMany op))).map (insOf op r :: ·) else none := by
  unfold parse
  rw [List.length_cons, parseGo, parse_fuel r.length (r.drop (4 * insMany op)).length (r.drop (4 * insMany op)) (by simp) (Nat.le_refl _)]

theorem take_four (r : List Int) (h : 4 ≤ r.length) (hb : ∀ x ∈ r, IsB x) : four (numAt r 0) = r.take 4 := by
  match r, h with
  | a :: b :: c :: d :: t, _ =>
    unfold numAt
    simp only [List.getD, List.getElem?_cons_zero, List.getElem?_cons_succ, Option.getD_some]
    rw [four_num a b c d (hb a (by simp)) (hb b (by simp)) (hb c (by simp)) (hb d (by simp))]
    rfl

theorem numAt_drop (r : List Int) (j k : Nat) : numAt (r.drop j) k = numAt r (j + k) := by
  unfold numAt
  simp only [List.getD, List.getElem?_drop, Nat.add_assoc]

theorem ins_enc (op : Int) (r : List Int) (ho : IsB op) (hb : ∀ x ∈ r, IsB x) (hl : 4 * insMany op ≤ r.length) : (insOf op r).bytes = op :: r.take (4 * insMany op) := by
  have hm := insMany_le op
  have e0 : op % 256 = op := by unfold IsB at ho; omega
  have hd : ∀ j, ∀ x ∈ r.drop j, IsB x := fun j x hx => hb x (List.mem_of_mem_drop hx)
  simp only [In.bytes, In.nums, insOf, many_eq, e0]
  generalize insMany op = m at *
  match m, hm with
  | 0, _ => simp
  | 1, _ =>
    simp [take_four r (by omega) hb]
  | 2, _ =>
    have h1 := take_four (r.drop 4) (by simp; omega) (hd 4)
    rw [numAt_drop] at h1
    simp only [Nat.add_zero] at h1
    simp [take_four r (by omega) hb, h1]
    rw [← List.take_add]
  | 3, _ =>
    have h1 := take_four (r.drop 4) (by simp; omega) (hd 4)
    have h2 := take_four (r.drop 8) (by simp; omega) (hd 8)
    rw [numAt_drop] at h1 h2
    simp only [Nat.add_zero] at h1 h2
    simp [take_four r (by omega) hb, h1, h2]
    rw [show List.take 12 r = List.take (8 + 4) r from rfl, List.take_add, show List.take 8 r = List.take (4 + 4) r from rfl, List.take_add, List.append_assoc]

theorem parse_enc : ∀ (n : Nat) (l : List Int) (c : List In), l.length ≤ n → (∀ x ∈ l, IsB x) → parse l = some c → c.flatMap In.bytes = l
  | _, [], c, _, _, h => by
    rw [parse_nil] at h
    cases h
    rfl
  | 0, _ :: _, _, hn, _, _ => by simp at hn
  | n + 1, op :: r, c, hn, hb, h => by
    rw [parse_cons] at h
    split at h
    · rename_i hl
      obtain ⟨c', hc', rfl⟩ := Option.map_eq_some_iff.1 h
      have hbr : ∀ x ∈ r, IsB x := fun x hx => hb x (by simp [hx])
      have := parse_enc n (r.drop (4 * insMany op)) c' (by simp at hn; simp; omega) (fun x hx => hbr x (List.mem_of_mem_drop hx)) hc'
      rw [List.flatMap_cons, this, ins_enc op r (hb op (by simp)) hbr hl]
      simp
    · cases h

/-- What is read from bytes, if anything is. -/
def readZ (bs : List Int) : Option (List In) :=
  if 20000 < bs.length ∨ bs.take 3 ≠ headBytes then none else
    match parse (bs.drop 3) with
    | none => none
    | some c => if codeOkZ c then some c else none

/-- The specification's way: write it again and hold it against the bytes. -/
theorem read_spec (bs : List Int) (hb : ∀ x ∈ bs, IsB x) (h3 : 3 ≤ bs.length) (hl : bs.length ≤ 20000) {c : List In} (hc : parse (bs.drop 3) = some c) :
    readZ bs = if codeOkZ c = true ∧ codeBytesZ c = bs then some c else none := by
  have he := parse_enc _ _ c (Nat.le_refl _) (fun x hx => hb x (List.mem_of_mem_drop hx)) hc
  have e1 : codeBytesZ c = bs ↔ bs.take 3 = headBytes := by
    unfold codeBytesZ
    rw [he]
    constructor
    · intro h
      rw [← h]
      rfl
    · intro h
      rw [← h]
      exact List.take_append_drop 3 bs
  unfold readZ
  by_cases hh : bs.take 3 = headBytes
  · rw [if_neg (by rw [not_or]; exact ⟨by omega, by simp [hh]⟩), hc]
    by_cases ho : codeOkZ c = true
    · rw [if_pos ⟨ho, e1.2 hh⟩]
      simp [ho]
    · rw [if_neg (fun h => ho h.1)]
      simp [ho]
  · rw [if_pos (Or.inr hh), if_neg (fun h => hh (e1.1 h.2))]

theorem read_none (bs : List Int) (h : parse (bs.drop 3) = none) : readZ bs = none := by
  unfold readZ
  rw [h]
  split <;> rfl

/-- A byte that begins no instruction. -/
theorem read_bad (bs : List Int) {c : List In} {op : Int} {r : List Int} (hp : parse (bs.drop 3) = (parse (op :: r)).map (c ++ ·)) (ho : manyZ op < 0) : readZ bs = none := by
  cases hr : parse (op :: r) with
  | none =>
    rw [hr] at hp
    exact read_none bs hp
  | some c' =>
    rw [hr] at hp
    rw [parse_cons] at hr
    split at hr
    · obtain ⟨c2, _, rfl⟩ := Option.map_eq_some_iff.1 hr
      have hno : codeOkZ (c ++ insOf op r :: c2) = false := by
        have : In.ok (insOf op r) = false := by
          show insOkZ op _ _ _ = false
          unfold insOkZ
          rw [if_pos (Or.inl ho)]
        unfold codeOkZ
        rw [List.all_append, List.all_cons, this]
        simp
      unfold readZ
      simp only [Option.map_some] at hp
      rw [hp]
      split
      · rfl
      · simp [hno]
    · cases hr
end Go.Proofs.Ytmjcifaihmecmaa
