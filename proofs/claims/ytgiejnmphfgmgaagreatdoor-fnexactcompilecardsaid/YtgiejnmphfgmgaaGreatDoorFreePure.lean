/- Names put where they belong, one behind the other, are those names sorted, each once. -/
import Derived.Test.YtgiejnmphfgmgaaGreatDoorNamePure
import Derived.Lib.SlicesCompact
namespace Go.Proofs.YtgiejnmphfgmgaaGreatDoor
open Go.RowKit

abbrev Tx := List UInt8

/-- A name is put where it belongs. -/
def insL : List Tx → Tx → List Tx
  | [], s => [s]
  | x :: r, s => if s < x then s :: x :: r else x :: insL r s

def addL (l : List Tx) (s : Tx) : List Tx := if s ∈ l then l else insL l s

theorem mem_insL (s y : Tx) : ∀ l : List Tx, y ∈ insL l s ↔ y = s ∨ y ∈ l
  | [] => by simp [insL]
  | x :: r => by
    unfold insL
    split
    · simp
    · rw [List.mem_cons, mem_insL s y r, List.mem_cons]
      constructor
      · rintro (h | h | h)
        · exact Or.inr (Or.inl h)
        · exact Or.inl h
        · exact Or.inr (Or.inr h)
      · rintro (h | h | h)
        · exact Or.inr (Or.inl h)
        · exact Or.inl h
        · exact Or.inr (Or.inr h)

theorem mem_addL (l : List Tx) (s y : Tx) : y ∈ addL l s ↔ y = s ∨ y ∈ l := by
  unfold addL
  split
  · rename_i h
    constructor
    · exact Or.inr
    · rintro (rfl | h')
      · exact h
      · exact h'
  · exact mem_insL s y l

theorem lt_of_ne {a b : Tx} (h : ¬ a < b) (hne : a ≠ b) : b < a := by
  rcases Classical.em (b < a) with h' | h'
  · exact h'
  · exact absurd (List.le_antisymm (List.not_lt.1 h') (List.not_lt.1 h)) hne

theorem insL_sorted (s : Tx) : ∀ l : List Tx, l.Pairwise (· < ·) → s ∉ l → (insL l s).Pairwise (· < ·)
  | [], _, _ => by simp [insL]
  | x :: r, h, hn => by
    obtain ⟨h1, h2⟩ := List.pairwise_cons.1 h
    unfold insL
    split
    · rename_i hs
      refine List.pairwise_cons.2 ⟨fun y hy => ?_, h⟩
      rcases List.mem_cons.1 hy with rfl | hy
      · exact hs
      · exact List.lt_trans hs (h1 y hy)
    · rename_i hs
      have hx : x < s := lt_of_ne hs (fun e => hn (e ▸ List.mem_cons_self))
      refine List.pairwise_cons.2 ⟨fun y hy => ?_, insL_sorted s r h2 (fun h' => hn (List.mem_cons_of_mem _ h'))⟩
      rcases (mem_insL s y r).1 hy with rfl | hy
      · exact hx
      · exact h1 y hy

theorem addL_sorted {l : List Tx} (h : l.Pairwise (· < ·)) (s : Tx) : (addL l s).Pairwise (· < ·) := by
  unfold addL
  split
  · exact h
  · rename_i hn
    exact insL_sorted s l h hn

theorem fold_sorted : ∀ (xs l : List Tx), l.Pairwise (· < ·) → (xs.foldl addL l).Pairwise (· < ·) ∧ ∀ y, y ∈ xs.foldl addL l ↔ y ∈ xs ∨ y ∈ l
  | [], l, h => ⟨h, fun y => by simp⟩
  | x :: xs, l, h => by
    obtain ⟨h1, h2⟩ := fold_sorted xs (addL l x) (addL_sorted h x)
    refine ⟨h1, fun y => ?_⟩
    rw [List.foldl_cons, h2 y, mem_addL, List.mem_cons]
    constructor
    · rintro (h | h | h)
      · exact Or.inl (Or.inr h)
      · exact Or.inl (Or.inl h)
      · exact Or.inr h
    · rintro ((h | h) | h)
      · exact Or.inr (Or.inl h)
      · exact Or.inl h
      · exact Or.inr (Or.inr h)

/-- Two lists that ascend and hold the same are one. -/
theorem sorted_one : ∀ (l m : List Tx), l.Pairwise (· < ·) → m.Pairwise (· < ·) → (∀ y, y ∈ l ↔ y ∈ m) → l = m
  | [], [], _, _, _ => rfl
  | [], y :: m, _, _, h => by
    have := (h y).2 List.mem_cons_self
    cases this
  | x :: l, [], _, _, h => by
    have := (h x).1 List.mem_cons_self
    cases this
  | x :: l, y :: m, hl, hm, h => by
    obtain ⟨l1, l2⟩ := List.pairwise_cons.1 hl
    obtain ⟨m1, m2⟩ := List.pairwise_cons.1 hm
    have hxy : x = y := by
      rcases List.mem_cons.1 ((h x).1 List.mem_cons_self) with e | e
      · exact e
      · rcases List.mem_cons.1 ((h y).2 List.mem_cons_self) with e' | e'
        · exact e'.symm
        · exact absurd (List.lt_trans (m1 x e) (l1 y e')) (List.lt_irrefl _)
    subst hxy
    congr 1
    refine sorted_one l m l2 m2 (fun z => ⟨fun hz => ?_, fun hz => ?_⟩)
    · rcases List.mem_cons.1 ((h z).1 (List.mem_cons_of_mem _ hz)) with rfl | e
      · exact absurd (l1 z hz) (List.lt_irrefl _)
      · exact e
    · rcases List.mem_cons.1 ((h z).2 (List.mem_cons_of_mem _ hz)) with rfl | e
      · exact absurd (m1 z hz) (List.lt_irrefl _)
      · exact e

theorem compact_upTo (d : Array Tx) (hs : ∀ i j, i ≤ j → j < d.size → d[i]! ≤ d[j]!) : ∀ m, m ≤ d.size → (Lib.compactUpTo d m).Pairwise (· < ·) ∧ (∀ x, x ∈ Lib.compactUpTo d m ↔ ∃ j, j < m ∧ d[j]! = x)
  | 0, _ => ⟨by simp [Lib.compactUpTo], fun x => by simp [Lib.compactUpTo]⟩
  | m + 1, hm => by
    obtain ⟨h1, h2⟩ := compact_upTo d hs m (by omega)
    rw [Lib.compactUpTo_succ]
    by_cases hk : Lib.keeps d m = true
    · rw [if_pos hk]
      have hk' : m = 0 ∨ d[m]! ≠ d[m - 1]! := of_decide_eq_true hk
      refine ⟨List.pairwise_append.2 ⟨h1, by simp, fun x hx y hy => ?_⟩, fun x => ?_⟩
      · rw [List.mem_singleton] at hy
        subst hy
        obtain ⟨j, hj, rfl⟩ := (h2 x).1 hx
        have hne := hk'.resolve_left (by omega)
        have a1 : d[j]! ≤ d[m - 1]! := hs j (m - 1) (by omega) (by omega)
        have a2 : d[m - 1]! ≤ d[m]! := hs (m - 1) m (by omega) (by omega)
        refine lt_of_ne (List.not_lt.2 (List.le_trans a1 a2)) (fun e => ?_)
        rw [← e] at a1
        exact hne (List.le_antisymm a1 a2)
      · rw [List.mem_append, h2 x, List.mem_singleton]
        constructor
        · rintro (⟨j, hj, e⟩ | rfl)
          · exact ⟨j, by omega, e⟩
          · exact ⟨m, by omega, rfl⟩
        · rintro ⟨j, hj, e⟩
          by_cases hjm : j = m
          · subst hjm
            exact Or.inr e.symm
          · exact Or.inl ⟨j, by omega, e⟩
    · rw [if_neg hk, List.append_nil]
      have hk' : ¬ (m = 0 ∨ d[m]! ≠ d[m - 1]!) := fun h => hk (decide_eq_true h)
      refine ⟨h1, fun x => ?_⟩
      rw [h2 x]
      constructor
      · rintro ⟨j, hj, e⟩
        exact ⟨j, by omega, e⟩
      · rintro ⟨j, hj, e⟩
        by_cases hjm : j = m
        · subst hjm
          have h3 : d[j]! = d[j - 1]! := Classical.byContradiction (fun h => hk' (Or.inr h))
          exact ⟨j - 1, by omega, by rw [← h3]; exact e⟩
        · exact ⟨j, by omega, e⟩

theorem free_same (l : List Tx) : Lib.compact (l.mergeSort (fun x y => decide (x ≤ y))) = l.foldl addL [] := by
  obtain ⟨h1, h2⟩ := fold_sorted l [] List.Pairwise.nil
  have hp : (l.mergeSort (fun x y => decide (x ≤ y))).Pairwise (fun a b => decide (a ≤ b) = true) := List.pairwise_mergeSort (le := fun x y => decide (x ≤ y)) (fun a b c h h' => decide_eq_true (List.le_trans (of_decide_eq_true h) (of_decide_eq_true h'))) (fun a b => by
    rcases List.le_total a b with h | h
    · rw [decide_eq_true h, Bool.true_or]
    · rw [decide_eq_true h, Bool.or_true]) l
  generalize hms : l.mergeSort (fun x y => decide (x ≤ y)) = ms at *
  have hmem : ∀ y, y ∈ ms ↔ y ∈ l := fun y => by rw [← hms]; exact List.mem_mergeSort
  have hs : ∀ i j, i ≤ j → j < ms.toArray.size → ms.toArray[i]! ≤ ms.toArray[j]! := fun i j hij hj => by
    have hj' : j < ms.length := by simpa using hj
    have e : ∀ k (hk : k < ms.length), ms.toArray[k]! = ms[k] := fun k hk => by simp [hk]
    rw [e i (by omega), e j hj']
    by_cases hij' : i = j
    · subst hij'
      exact List.not_lt.1 (List.lt_irrefl _)
    · exact of_decide_eq_true (List.pairwise_iff_getElem.1 hp i j (by omega) hj' (by omega))
  obtain ⟨c1, c2⟩ := compact_upTo ms.toArray hs ms.length (by simp)
  refine sorted_one _ _ c1 h1 (fun y => ?_)
  unfold Lib.compact
  rw [c2 y, h2 y, ← hmem y]
  constructor
  · rintro ⟨j, hj, rfl⟩
    exact Or.inl (by simp [hj])
  · rintro (h | h)
    · obtain ⟨j, hj, rfl⟩ := List.getElem_of_mem h
      exact ⟨j, hj, by simp [hj]⟩
    · cases h
end Go.Proofs.YtgiejnmphfgmgaaGreatDoor
