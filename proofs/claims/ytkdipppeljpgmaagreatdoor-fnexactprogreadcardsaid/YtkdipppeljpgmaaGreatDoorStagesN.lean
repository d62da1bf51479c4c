/- A region in stages, more: ahead of the cut an operation that makes something; at the cut an operation of the language's own. -/
import Derived.Test.YtkdipppeljpgmaaGreatDoorStagesC
namespace Go.Proofs.YtkdipppeljpgmaaGreatDoor
open Go.RowKit
section
variable {P : Program} {l0 : List Oper} {Q : Exit → Act → World → Prop} {S : World → Prop}

/-- One operation ahead of the cut that is alone ready and makes something. -/
theorem till_make {c k : Nat} {o : Oper} {v : Value} {a a' : Act} {w w1 : World} (hkc : k ≠ c) (ho : l0[k]? = some o) (hr : (Region.ready .any l0.toArray (upTo l0.length k) == [k]) = true) (hw : Region.wanted o (yielded l0.toArray a.tmps) = true)
    (hrun : (execOp a.eval o).run P w = .ok (.value v) w1) (hS : S w1) (hput : a.put o.dst v = a') (h : wpTill P l0.toArray (NoPanic Q) S c (wpAny P .any l0.toArray (NoPanic Q)) (l0.length - (k + 1)) (upTo l0.length (k + 1)) a' w1) :
    wpTill P l0.toArray (NoPanic Q) S c (wpAny P .any l0.toArray (NoPanic Q)) (l0.length - k) (upTo l0.length k) a w := by
  have hk : k < l0.length := (List.getElem?_eq_some_iff.1 ho).1
  have e : l0.length - k = l0.length - (k + 1) + 1 := by omega
  have ho' : l0.toArray[k]? = some o := by simpa using ho
  have hr' : Region.ready .any l0.toArray (upTo l0.length k) = [k] := by simpa using hr
  rw [e]
  refine ⟨by rw [hr']; simp, fun i hi => ?_⟩
  rw [hr', List.mem_singleton] at hi
  subst hi
  rw [if_neg hkc]
  unfold wpOp
  rw [ho', upTo_next]
  dsimp only
  rw [if_pos hw]
  refine Or.inl ?_
  unfold Oper.wp
  rw [hrun]
  subst hput
  exact ⟨hS, h⟩

/-- The operation at the cut: behind it another class, for what follows it. -/
theorem till_cut {c : Nat} {o : Oper} {v : Value} {a a' : Act} {w w1 : World} (ho : l0[c]? = some o) (hr : (Region.ready .any l0.toArray (upTo l0.length c) == [c]) = true) (hw : Region.wanted o (yielded l0.toArray a.tmps) = true)
    (hrun : (execOp a.eval o).run P w = .ok (.value v) w1) (hput : a.put o.dst v = a') (h : wpAny P .any l0.toArray (NoPanic Q) (l0.length - (c + 1)) (upTo l0.length (c + 1)) a' w1) :
    wpTill P l0.toArray (NoPanic Q) S c (wpAny P .any l0.toArray (NoPanic Q)) (l0.length - c) (upTo l0.length c) a w := by
  have hk : c < l0.length := (List.getElem?_eq_some_iff.1 ho).1
  have e : l0.length - c = l0.length - (c + 1) + 1 := by omega
  have ho' : l0.toArray[c]? = some o := by simpa using ho
  have hr' : Region.ready .any l0.toArray (upTo l0.length c) = [c] := by simpa using hr
  rw [e]
  refine ⟨by rw [hr']; simp, fun i hi => ?_⟩
  rw [hr', List.mem_singleton] at hi
  subst hi
  rw [if_pos rfl]
  unfold wpOp
  rw [ho', upTo_next]
  dsimp only
  rw [if_pos hw]
  refine Or.inl ?_
  unfold Oper.wp
  rw [hrun]
  subst hput
  exact h

/-- A store that is alone ready. -/
theorem stage_skip {k : Nat} {o : Oper} {a : Act} {w w1 : World} (hd : o.dst = none) (ho : l0[k]? = some o) (hr : (Region.ready .any l0.toArray (upTo l0.length k) == [k]) = true) (hw : Region.wanted o (yielded l0.toArray a.tmps) = true)
    (hrun : (execOp a.eval o).run P w = .ok .skip w1) (hS : S w1) (h : wpAnyH P .any l0.toArray (NoPanic Q) S (l0.length - (k + 1)) (upTo l0.length (k + 1)) a w1) :
    wpAnyH P .any l0.toArray (NoPanic Q) S (l0.length - k) (upTo l0.length k) a w := by
  have hk : k < l0.length := (List.getElem?_eq_some_iff.1 ho).1
  have e : l0.length - k = l0.length - (k + 1) + 1 := by omega
  have ho' : l0.toArray[k]? = some o := by simpa using ho
  rw [e]
  refine wpAnyH_all (rs := [k]) (by simpa using hr) (by simp) (fun i hi => ?_)
  rw [List.mem_singleton] at hi
  subst hi
  unfold wpOp
  rw [ho', upTo_next]
  dsimp only
  rw [if_pos hw]
  refine Or.inl ?_
  have hp : a.put o.dst undef = a := by rw [hd]; rfl
  unfold Oper.wp
  rw [hrun]
  refine ⟨hS, ?_⟩
  rw [hp]
  exact h

theorem append_runN {P : Program} {a : Act} {o : Oper} {s x : Operand} {t : TypeId} (ho : o.op = .call { callee := .builtin .append, args := #[s, x], argTypes := #[t, t] }) {v vx : Value} (hs : a.eval s = v) (hx : a.eval x = vx) {w w' : World} {v' : Value} (hr : (Builtin.append_ #[t, t] o.type #[v, vx]).run P w = .ok v' w') : (execOp a.eval o).run P w = .ok (.value v') w' := by
  unfold execOp
  simp only [ho, resolve, invoke, builtin, Sem.run_bind, Sem.run_pure, Result.andThen_ok, List.map_toArray, List.map_cons, List.map_nil, hs, hx, hr]
end
end Go.Proofs.YtkdipppeljpgmaaGreatDoor
