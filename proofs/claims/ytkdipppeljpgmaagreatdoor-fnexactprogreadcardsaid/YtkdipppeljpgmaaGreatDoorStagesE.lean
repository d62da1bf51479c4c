/- A call in a region, whatever it answers. -/
import Derived.Test.YtkdipppeljpgmaaGreatDoorStages
namespace Go.Proofs.YtkdipppeljpgmaaGreatDoor
open Go.RowKit
section
variable {P : Program} {Q : Exit → Act → World → Prop} {S : World → Prop} {l0 : List Oper}

/-- A call that is alone ready, whatever it answers: what follows is asked behind each answer. -/
theorem stage_enter {k : Nat} {o : Oper} {f : FuncId} {args : Array Value} {a : Act} {w : World} (ho : l0[k]? = some o) (hr : (Region.ready .any l0.toArray (upTo l0.length k) == [k]) = true) (hw : Region.wanted o (yielded l0.toArray a.tmps) = true)
    (hrun : (execOp a.eval o).run P w = .ok (.enter f args) w) (h : Calls P f args w fun e w' => ∃ v, e = .returned v ∧ S w' ∧ wpAnyH P .any l0.toArray (NoPanic Q) S (l0.length - (k + 1)) (upTo l0.length (k + 1)) (a.put o.dst v) w') :
    wpAnyH P .any l0.toArray (NoPanic Q) S (l0.length - k) (upTo l0.length k) a w := by
  have hk : k < l0.length := (List.getElem?_eq_some_iff.1 ho).1
  have e : l0.length - k = l0.length - (k + 1) + 1 := by omega
  have ho' : l0.toArray[k]? = some o := by simpa using ho
  rw [e]
  refine wpAnyH_all (rs := [k]) (by simpa using hr) (by simp) (fun i hi => ?_)
  rw [List.mem_singleton] at hi
  subst hi
  unfold wpOp
  rw [ho', upTo_next]
  dsimp only
  rw [if_pos hw]
  refine Or.inl ?_
  unfold Oper.wp
  rw [hrun]
  refine Calls.mono h ?_
  rintro e w3 ⟨v, rfl, hS, hn⟩
  exact ⟨hS, hn⟩

/-- The frame, written out. -/
theorem stage_frame {k : Nat} {a a' : Act} {w : World} (ha : a = a') (h : wpAnyH P .any l0.toArray (NoPanic Q) S (l0.length - k) (upTo l0.length k) a' w) : wpAnyH P .any l0.toArray (NoPanic Q) S (l0.length - k) (upTo l0.length k) a w := by
  subst ha
  exact h
end
end Go.Proofs.YtkdipppeljpgmaaGreatDoor
