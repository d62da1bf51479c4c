/- Where clauses stand, as the program asks it: what a node's kids must be, name by name. -/
import Derived.Test.YtgiejnmphfgmgaaGreatDoorSpecClausesB
import Derived.Test.YtgiejnmphfgmgaaGreatDoorShelf
namespace Go.Proofs.YtgiejnmphfgmgaaGreatDoor
open Go.RowKit

set_option maxRecDepth 100000 in
theorem clauseKind_calls (k : Int) (w : World) :
    Calls Tryz.prog 104 #[.int .i64 k] w fun e w' => e = .returned (.int .i64 (clauseZ k)) ∧ w = w' := by
  go_enter Tryz.func104, Tryz.ntmps104
  go_wp2
  all_goals
    go_ret
    refine ⟨?_, rfl⟩
    simp_all [clauseZ]

theorem handler_eq (k : Int) : (k == 23 || k == 24) = decide (k = 23 ∨ k = 24) := by
  by_cases h : k = 23
  · simp [h]
  · by_cases h' : k = 24 <;> simp [h, h']

set_option maxRecDepth 100000 in
theorem isHandler_calls (k : Int) (w : World) :
    Calls Tryz.prog 124 #[.int .i64 k] w fun e w' => e = .returned (.bool (decide (k = 23 ∨ k = 24))) ∧ w = w' := by
  rw [← handler_eq]
  go_enter Tryz.func124, Tryz.ntmps124
  go_wp2
  all_goals
    go_ret
    refine ⟨?_, rfl⟩
    simp_all

set_option maxRecDepth 100000 in
theorem wanted_calls (k : Int) (i : Nat) (w : World) :
    Calls Tryz.prog 105 #[.int .i64 k, .int .i64 i] w fun e w' => e = .returned (.int .i64 (wantedZ k i)) ∧ w = w' := by
  have hi : i = 0 ∨ i = 1 ∨ (i ≠ 0 ∧ i ≠ 1) := by omega
  by_cases hk : k = 23 ∨ k = 24
  all_goals
    rcases hi with rfl | rfl | ⟨h0, h1⟩
    all_goals
      try have h0' : ((i : Int) == 0) = false := by rw [beq_eq_false_iff_ne]; omega
      try have h1' : ((i : Int) == 1) = false := by rw [beq_eq_false_iff_ne]; omega
      go_enter Tryz.func105, Tryz.ntmps105
      go_wp2_with fail
      refine (isHandler_calls _ _).mono ?_
      rintro e w2 ⟨rfl, rfl⟩
      go_wp2
      all_goals
        go_ret
        refine ⟨?_, rfl⟩
        simp_all [wantedZ]

theorem isIn_contains (ops : List ByteArray) (s : ByteArray) : Lib.containsS ops s = isIn ops s := by
  rw [Bool.eq_iff_iff, Lib.containsS_iff]
  simp only [isIn, List.any_eq_true, beq_iff_eq]
  constructor
  · intro h
    exact ⟨s, h, rfl⟩
  · rintro ⟨x, hx, he⟩
    have : x = s := by
      rw [ByteArray.toList_eq, ByteArray.toList_eq] at he
      exact ByteArray.ext (Array.ext' he)
    rw [← this]
    exact hx

/-- Whether a name is among those of a list of the call's own, by the library. -/
theorem contains_calls (B : Nat) (v : Value) (ops : List ByteArray) (s : ByteArray) (w : World) (hl : ops.length ≤ 1000000) (hown : w.ownsRow B 9 1 v ops.length (strs ops)) :
    Calls Tryz.prog 106 #[v, .string s] w fun e w' => e = .returned (.bool (isIn ops s)) ∧ w = w' := by
  cases ops with
  | nil =>
    obtain ⟨a, c, rfl⟩ : ∃ a c, v = .slice a 0 c := by
      rcases hown.2 with ⟨h, _⟩ | ⟨g, c, cur, h, _⟩
      · exact ⟨none, 0, h⟩
      · exact ⟨_, _, h⟩
    refine (Tryz.slices_Contains_string_empty a c s w).mono ?_
    rintro e w' ⟨rfl, rfl⟩
    exact ⟨rfl, rfl⟩
  | cons x r =>
    obtain ⟨g, c, rfl⟩ : ∃ g c, v = .slice (some ⟨g, 0, none⟩) (x :: r).length c := by
      rcases hown.2 with ⟨_, h⟩ | ⟨g, c, cur, h, _⟩
      · simp at h
      · exact ⟨_, _, h⟩
    refine (Tryz.slices_Contains_string g 0 (x :: r).length c (x :: r) s w (Nat.le_refl _) (by omega) (fun j hj => ?_)).mono ?_
    · rw [Nat.zero_add, hown.cellAt j (by omega)]
      rw [strs, List.getElem?_map, List.getElem?_eq_getElem hj, List.getD, List.getElem?_eq_getElem hj]
      rfl
    · rintro e w' ⟨rfl, rfl⟩
      exact ⟨by rw [isIn_contains, List.take_length], rfl⟩

/-! ### Every place of a forest -/
def Fo.oks : Fo → List Bool
  | .none => []
  | .tree n k r => implKids k n.kind 0 [] :: (k.oks ++ r.oks)

theorem Fo.oks_length : ∀ f : Fo, f.oks.length = f.flat.length
  | .none => rfl
  | .tree n k r => by simp only [oks, flat, List.length_cons, List.length_append, oks_length k, oks_length r]

theorem Fo.oks_all : ∀ f : Fo, implAll f = f.oks.all id
  | .none => rfl
  | .tree n k r => by simp only [implAll, oks, List.all_cons, List.all_append, oks_all k, oks_all r, id_eq]

theorem Fo.place : ∀ (f : Fo), f.wf → ∀ at_, at_ < f.flat.length → ∃ (n : Nd) (k : Fo) (suf : List Nd), f.flat.drop at_ = n :: (k.flat ++ suf) ∧ n.kids = k.count ∧ k.wf ∧ f.oks.drop at_ = implKids k n.kind 0 [] :: f.oks.drop (at_ + 1)
  | .none, _, at_, h => by simp [flat] at h
  | .tree n k r, hw, 0, _ => ⟨n, k, r.flat, rfl, hw.1, hw.2.1, rfl⟩
  | .tree n k r, hw, j + 1, h => by
    simp only [flat, List.length_cons, List.length_append] at h
    simp only [flat, oks, List.drop_succ_cons]
    have lk := oks_length k
    by_cases hj : j < k.flat.length
    · obtain ⟨n', k', suf, e1, e2, e3, e4⟩ := place k hw.2.1 j hj
      refine ⟨n', k', suf ++ r.flat, ?_, e2, e3, ?_⟩
      · rw [List.drop_append_of_le_length (by omega), e1]
        simp
      · rw [List.drop_append_of_le_length (by omega), List.drop_append_of_le_length (by omega), e4]
        rfl
    · obtain ⟨n', k', suf, e1, e2, e3, e4⟩ := place r hw.2.2 (j - k.flat.length) (by omega)
      refine ⟨n', k', suf, ?_, e2, e3, ?_⟩
      · rw [List.drop_append, List.drop_eq_nil_of_le (by omega), List.nil_append, e1]
      · rw [List.drop_append, List.drop_append, List.drop_eq_nil_of_le (show k.oks.length ≤ j by omega), List.drop_eq_nil_of_le (show k.oks.length ≤ j + 1 by omega), List.nil_append, List.nil_append, lk, e4]
        congr 2
        omega

theorem kidsZ_false {n : Nd} {k r : Fo} {pk : Int} {i : Nat} {ops : List ByteArray} (h : (clauseZ n.kind != wantedZ pk i) = true) : implKids (.tree n k r) pk i ops = false := by
  simp only [implKids]
  have : (clauseZ n.kind == wantedZ pk i) = false := by simpa [bne] using h
  rw [this, Bool.false_and]

theorem kidsZ_in {n : Nd} {k r : Fo} {pk : Int} {i : Nat} {ops : List ByteArray} (h : isIn ops n.a = true) : implKids (.tree n k r) pk i ops = false := by
  simp only [implKids]
  rw [h, Bool.not_true, Bool.false_and, Bool.and_false]

theorem kidsZ_next {n : Nd} {k r : Fo} {pk : Int} {i : Nat} {ops : List ByteArray} (h : (clauseZ n.kind != wantedZ pk i) = false) (h' : isIn ops n.a = false) : implKids (.tree n k r) pk i ops = implKids r pk (i + 1) (if n.kind = 26 then ops ++ [n.a] else ops) := by
  simp only [implKids]
  have : (clauseZ n.kind == wantedZ pk i) = true := by simpa [bne] using h
  rw [this, h', Bool.not_false, Bool.true_and, Bool.true_and]
end Go.Proofs.YtgiejnmphfgmgaaGreatDoor
