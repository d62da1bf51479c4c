/- What a program must be: its operations, and that its tree has no others. -/
import Derived.Test.YtkdipppeljpgmaaGreatDoorEffIn
import Derived.Test.YtkdipppeljpgmaaGreatDoorNameWalks
namespace Go.Proofs.YtkdipppeljpgmaaGreatDoor
open Go.RowKit Go.Deep

/-- An operation that may stand at its place. -/
def effOk (es : List Ef) (i : Nat) : Bool :=
  nameOk (es.getD i default).name && (!effIn (es.take i) (es.getD i default).name && (decide (1 ≤ (es.getD i default).arg ∧ (es.getD i default).arg ≤ 4) && decide (1 ≤ (es.getD i default).res ∧ (es.getD i default).res ≤ 4)))

/-- A node that names an operation names one of these. -/
def nodeHas (es : List Ef) (n : Nd) : Bool := !((n.kind == 22 || n.kind == 26) && !effIn es n.a)

def progZ (es : List Ef) (ns : List Nd) (T : Bool) : Bool := decide (es.length ≤ 8) && (T && ((List.range es.length).all (effOk es) && ns.all (nodeHas es)))

theorem range_step {es : List Ef} {i : Nat} (h : (List.range i).all (effOk es) = true) (h' : effOk es i = true) : (List.range (i + 1)).all (effOk es) = true := by
  rw [List.range_succ, List.all_append, h]
  simpa using h'

theorem range_false {es : List Ef} {i : Nat} (hi : i < es.length) (h : effOk es i = false) : (List.range es.length).all (effOk es) = false := by
  rw [List.all_eq_false]
  exact ⟨i, List.mem_range.2 hi, by simpa using h⟩

theorem has_step {es : List Ef} {ns : List Nd} {i : Nat} (hi : i < ns.length) (h : (ns.take i).all (nodeHas es) = true) (hn : nodeHas es (ns.getD i default) = true) : (ns.take (i + 1)).all (nodeHas es) = true := by
  rw [List.take_succ_eq_append_getElem hi, List.all_append, h]
  simp only [List.getD, List.getElem?_eq_getElem hi] at hn
  simpa using hn

theorem has_false {es : List Ef} {ns : List Nd} {i : Nat} (hi : i < ns.length) (hn : nodeHas es (ns.getD i default) = false) : ns.all (nodeHas es) = false := by
  rw [List.all_eq_false]
  simp only [List.getD, List.getElem?_eq_getElem hi] at hn
  exact ⟨ns[i], List.getElem_mem _, by simpa using hn⟩

theorem effsTake {w : World} {b off : Nat} {es : List Ef} {i : Nat} (h : EffsAt w b off es) : EffsAt w b off (es.take i) := fun k hk c hc => by
  have hk' : k < es.length := by simp at hk; omega
  have hki : k < i := by simp at hk; omega
  rw [h k hk' c hc]
  simp [List.getD, hki]
end Go.Proofs.YtkdipppeljpgmaaGreatDoor
