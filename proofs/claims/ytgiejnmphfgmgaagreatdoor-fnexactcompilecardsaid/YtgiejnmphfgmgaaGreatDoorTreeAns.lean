/- What a tree must be: the specification's answer and the program's are one. -/
import Derived.Test.YtgiejnmphfgmgaaGreatDoorDeepOf
import Derived.Test.YtgiejnmphfgmgaaGreatDoorImplClausesB
import Derived.Test.YtgiejnmphfgmgaaGreatDoorImplOwn
namespace Go.Proofs.YtgiejnmphfgmgaaGreatDoor
open Go.RowKit Go.Deep

def SpecAns (ns : List Nd) (R : Bool) : Prop :=
  (¬ (1 ≤ ns.length ∧ ns.length ≤ 300) ∧ R = false) ∨
  (1 ≤ ns.length ∧ ns.length ≤ 300 ∧ treeEnd ns 0 ≠ ns.length ∧ R = false) ∨
  (1 ≤ ns.length ∧ ns.length ≤ 300 ∧ ∃ n k, ns = n :: k.flat ∧ n.kids = k.count ∧ k.wf ∧ R = (ns.all ownOk && (decide (k.deep + 1 ≤ 40) && specTree n k 0)))

def ImplAns (ns : List Nd) (R : Bool) : Prop :=
  (¬ (1 ≤ ns.length ∧ ns.length ≤ 300) ∧ R = false) ∨
  (1 ≤ ns.length ∧ ns.length ≤ 300 ∧ treeEnd ns 0 ≠ ns.length ∧ R = false) ∨
  (1 ≤ ns.length ∧ ns.length ≤ 300 ∧ ∃ n k, ns = n :: k.flat ∧ n.kids = k.count ∧ k.wf ∧ R = (ns.all nodeOkZ && (implTree n k && decide (k.deep + 1 ≤ 40))))

theorem all_both {α : Type} (p q : α → Bool) : ∀ l : List α, l.all (fun x => p x && q x) = (l.all p && l.all q)
  | [] => rfl
  | x :: l => by
    simp only [List.all_cons, all_both p q l]
    cases p x <;> cases q x <;> cases l.all p <;> cases l.all q <;> rfl

theorem answers (ns : List Nd) : ∃ R, SpecAns ns R ∧ ImplAns ns R := by
  by_cases hl : 1 ≤ ns.length ∧ ns.length ≤ 300
  · by_cases he : treeEnd ns 0 = ns.length
    · obtain ⟨n, k, h1, h2, h3⟩ := tree_of he
      refine ⟨_, Or.inr (Or.inr ⟨hl.1, hl.2, n, k, h1, h2, h3, rfl⟩), Or.inr (Or.inr ⟨hl.1, hl.2, n, k, h1, h2, h3, ?_⟩)⟩
      have e : ns.all nodeOkZ = (ns.all ownOk && ns.all ok26) := all_both ownOk ok26 ns
      rw [e, trees_eq, ← h1]
      cases ns.all ownOk <;> cases ns.all ok26 <;> cases implTree n k <;> cases decide (k.deep + 1 ≤ 40) <;> rfl
    · exact ⟨false, Or.inr (Or.inl ⟨hl.1, hl.2, he, rfl⟩), Or.inr (Or.inl ⟨hl.1, hl.2, he, rfl⟩)⟩
  · exact ⟨false, Or.inl ⟨hl, rfl⟩, Or.inl ⟨hl, rfl⟩⟩

theorem fits_of_own {n : Nd} (h : ownOk n = true) : Fits n n.kids.toNat := by
  have hk : kidsOk n.kind n.kids = true := by
    simp only [ownOk, Bool.and_eq_true] at h
    exact h.1
  have hr : ¬ (n.kind < 1 ∨ 26 < n.kind) := by
    intro hx
    have : arityZ n.kind = -1 := tab_other hx
    simp [kidsOk, this] at hk
  unfold kidsOk at hk
  have ha := arity_range n.kind
  split at hk
  · cases hk
  · rename_i h1
    split at hk
    · rename_i h2
      have hk := of_decide_eq_true hk
      refine ⟨?_, ?_, by omega, by omega⟩
      · rw [leastZ, if_pos h2]; omega
      · rw [greatZ, if_pos h2]; omega
    · rename_i h2
      have hk := of_decide_eq_true hk
      refine ⟨?_, ?_, by omega, by omega⟩
      · rw [leastZ, if_neg h2]; omega
      · rw [greatZ, if_neg h2]; omega

theorem end_of_tree {ns : List Nd} {n : Nd} {k : Fo} (h1 : ns = n :: k.flat) (h2 : n.kids = k.count) (h3 : k.wf) : treeEnd ns 0 = (ns.length : Int) := by
  have := treeEnd_at (ns := ns) (p := 0) (n := n) (k := k) (suf := []) (by rw [h1]; simp) h2 h3
  rw [show ((0 : Nat) : Int) = 0 from rfl] at this
  rw [this, h1]
  simp
  omega

theorem all_take_succ {p : Nd → Bool} {ns : List Nd} {i : Nat} (hi : i < ns.length) (h : (ns.take i).all p = true) (hn : p (ns.getD i default) = true) : (ns.take (i + 1)).all p = true := by
  rw [List.take_succ_eq_append_getElem hi, List.all_append, h]
  simp only [List.getD, List.getElem?_eq_getElem hi] at hn
  simpa using hn

theorem all_false {p : Nd → Bool} {ns : List Nd} {i : Nat} (hi : i < ns.length) (hn : p (ns.getD i default) = false) : ns.all p = false := by
  rw [List.all_eq_false]
  simp only [List.getD, List.getElem?_eq_getElem hi] at hn
  exact ⟨ns[i], List.getElem_mem _, by simpa using hn⟩

/-- What is left behind the nodes' own test. -/
def Rest (ns : List Nd) (R : Bool) (own : Nd → Bool) (tr : Nd → Fo → Bool) : Prop :=
  (ns.all own = false → R = false) ∧ (ns.all own = true → (treeEnd ns 0 ≠ (ns.length : Int) ∧ R = false) ∨ ∃ n k, ns = n :: k.flat ∧ n.kids = k.count ∧ k.wf ∧ treeEnd ns 0 = (ns.length : Int) ∧ R = (tr n k && decide (k.deep + 1 ≤ 40)))

theorem SpecAns.rest {ns : List Nd} {R : Bool} (h : SpecAns ns R) (hl : 1 ≤ ns.length ∧ ns.length ≤ 300) : Rest ns R ownOk (fun n k => specTree n k 0) := by
  rcases h with ⟨h, _⟩ | ⟨_, _, he, hR⟩ | ⟨_, _, n, k, h1, h2, h3, hR⟩
  · exact absurd hl h
  · exact ⟨fun _ => hR, fun _ => Or.inl ⟨he, hR⟩⟩
  · refine ⟨fun h => by rw [hR, h, Bool.false_and], fun h => Or.inr ⟨n, k, h1, h2, h3, end_of_tree h1 h2 h3, ?_⟩⟩
    rw [hR, h, Bool.true_and, Bool.and_comm]

theorem ImplAns.rest {ns : List Nd} {R : Bool} (h : ImplAns ns R) (hl : 1 ≤ ns.length ∧ ns.length ≤ 300) : Rest ns R nodeOkZ implTree := by
  rcases h with ⟨h, _⟩ | ⟨_, _, he, hR⟩ | ⟨_, _, n, k, h1, h2, h3, hR⟩
  · exact absurd hl h
  · exact ⟨fun _ => hR, fun _ => Or.inl ⟨he, hR⟩⟩
  · refine ⟨fun h => by rw [hR, h, Bool.false_and], fun h => Or.inr ⟨n, k, h1, h2, h3, end_of_tree h1 h2 h3, ?_⟩⟩
    rw [hR, h, Bool.true_and]
end Go.Proofs.YtgiejnmphfgmgaaGreatDoor
