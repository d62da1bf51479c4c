/- Where clauses stand, as the program asks it: what a node's kids must be, name by name. -/
import Derived.Test.YtnhofdngmbnlkaaSpecClausesB
import Derived.Test.YtnhofdngmbnlkaaShelf
namespace Go.Proofs.Ytnhofdngmbnlkaa
open Go.RowKit

theorem handler_eq (k : Int) : (k == 23 || k == 24) = decide (k = 23 ∨ k = 24) := by
  by_cases h : k = 23
  · simp [h]
  · by_cases h' : k = 24 <;> simp [h, h']

/-! ### Every place of a forest -/
def Fo.oks : Fo → List Bool
  | .none => []
  | .tree n k r => implKids k n.kind 0 [] :: (k.oks ++ r.oks)

theorem Fo.oks_length : ∀ f : Fo, f.oks.length = f.flat.length
  | .none => rfl
  | .tree n k r => by simp only [oks, flat, List.length_cons, List.length_append, oks_length k, oks_length r]

theorem Fo.oks_all : ∀ f : Fo, implAll f = f.oks.all id
  | .none => rfl
  | .tree n k r => by simp only [implAll, oks, List.all_cons, List.all_append, oks_all k, oks_all r, id_eq]

theorem Fo.place : ∀ (f : Fo), f.wf → ∀ at_, at_ < f.flat.length → ∃ (n : Nd) (k : Fo) (suf : List Nd), f.flat.drop at_ = n :: (k.flat ++ suf) ∧ n.kids = k.count ∧ k.wf ∧ f.oks.drop at_ = implKids k n.kind 0 [] :: f.oks.drop (at_ + 1)
  | .none, _, at_, h => by simp [flat] at h
  | .tree n k r, hw, 0, _ => ⟨n, k, r.flat, rfl, hw.1, hw.2.1, rfl⟩
  | .tree n k r, hw, j + 1, h => by
    simp only [flat, List.length_cons, List.length_append] at h
    simp only [flat, oks, List.drop_succ_cons]
    have lk := oks_length k
    by_cases hj : j < k.flat.length
    · obtain ⟨n', k', suf, e1, e2, e3, e4⟩ := place k hw.2.1 j hj
      refine ⟨n', k', suf ++ r.flat, ?_, e2, e3, ?_⟩
      · rw [List.drop_append_of_le_length (by omega), e1]
        simp
      · rw [List.drop_append_of_le_length (by omega), List.drop_append_of_le_length (by omega), e4]
        rfl
    · obtain ⟨n', k', suf, e1, e2, e3, e4⟩ := place r hw.2.2 (j - k.flat.length) (by omega)
      refine ⟨n', k', suf, ?_, e2, e3, ?_⟩
      · rw [List.drop_append, List.drop_eq_nil_of_le (by omega), List.nil_append, e1]
      · rw [List.drop_append, List.drop_append, List.drop_eq_nil_of_le (show k.oks.length ≤ j by omega), List.drop_eq_nil_of_le (show k.oks.length ≤ j + 1 by omega), List.nil_append, List.nil_append, lk, e4]
        congr 2
        omega

theorem kidsZ_false {n : Nd} {k r : Fo} {pk : Int} {i : Nat} {ops : List ByteArray} (h : (clauseZ n.kind != wantedZ pk i) = true) : implKids (.tree n k r) pk i ops = false := by
  simp only [implKids]
  have : (clauseZ n.kind == wantedZ pk i) = false := by simpa [bne] using h
  rw [this, Bool.false_and]

theorem kidsZ_in {n : Nd} {k r : Fo} {pk : Int} {i : Nat} {ops : List ByteArray} (h : isIn ops n.a = true) : implKids (.tree n k r) pk i ops = false := by
  simp only [implKids]
  rw [h, Bool.not_true, Bool.false_and, Bool.and_false]

theorem kidsZ_next {n : Nd} {k r : Fo} {pk : Int} {i : Nat} {ops : List ByteArray} (h : (clauseZ n.kind != wantedZ pk i) = false) (h' : isIn ops n.a = false) : implKids (.tree n k r) pk i ops = implKids r pk (i + 1) (if n.kind = 26 then ops ++ [n.a] else ops) := by
  simp only [implKids]
  have : (clauseZ n.kind == wantedZ pk i) = true := by simpa [bne] using h
  rw [this, h', Bool.not_false, Bool.true_and, Bool.true_and]
end Go.Proofs.Ytnhofdngmbnlkaa
