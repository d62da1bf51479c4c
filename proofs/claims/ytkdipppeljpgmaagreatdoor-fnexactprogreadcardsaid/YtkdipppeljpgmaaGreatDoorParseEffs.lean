/- Reading operations, and the whole, plainly: the specification and the program read alike. -/
import Derived.Test.YtkdipppeljpgmaaGreatDoorPzBase
namespace Go.Proofs.YtkdipppeljpgmaaGreatDoor
open Go.RowKit

section
variable (ws : List Wd)

def badI : PI Int := fun i => .error i
def baseI : PI Int := orI ws kInt (pureI 1) (orI ws kBool (pureI 2) (orI ws kUnit (pureI 3) (orI ws kList (pureI 4) badI)))

/-- Operations, so many at most, as the program reads. -/
def effsI : Nat → List Ef → PI (List Ef)
  | 0, es => pureI es
  | f + 1, es => orI ws kEffect (bindI (nameI ws) fun x => bindI (takeI ws gColon) fun _ => bindI (baseI ws) fun a => bindI (takeI ws gGives) fun _ => bindI (baseI ws) fun r => bindI (takeI ws gSemi) fun _ => effsI f (es ++ [⟨x, a, r⟩])) (pureI es)
variable {ws}

theorem base_alike (h : WordsOk ws) : Alike (fun a b => a = b) (baseS ws) (baseI ws) := by
  have hb : Alike (fun a b => a = b) badS badI := ⟨fun s hb => by cases s; cases hb; rfl, fun i => rfl⟩
  unfold baseS baseI
  refine or_alike h ?_ ?_ (Alike.pure rfl) (or_alike h ?_ ?_ (Alike.pure rfl) (or_alike h ?_ ?_ (Alike.pure rfl) (or_alike h ?_ ?_ (Alike.pure rfl) hb)))
  all_goals decide

theorem effs_stuck : ∀ (f : Nat) (es : List Ef), StuckS (effsS ws f es)
  | 0, es => stuck_pure es
  | f + 1, es => or_stuck (by decide) (stuck_pure es)

theorem base_stuck : StuckS (baseS ws) :=
  or_stuck (by decide) (or_stuck (by decide) (or_stuck (by decide) (or_stuck (by decide) (fun s hb => by cases s; cases hb; rfl))))

theorem effs_alike (h : WordsOk ws) : ∀ (f : Nat) (es : List Ef), Alike (fun a b => a = b) (effsS ws f es) (effsI ws f es)
  | 0, es => Alike.pure rfl
  | f + 1, es => by
    unfold effsS effsI
    refine or_alike h ?_ ?_ ?_ (Alike.pure rfl)
    · decide
    · decide
    refine Alike.bind name_alike ?_ ?_
    · rintro x y rfl
      refine Alike.bind (take_alike h ?_ ?_) ?_ ?_
      · decide
      · decide
      · intro _ _ _
        refine Alike.bind (base_alike h) ?_ ?_
        · rintro a b rfl
          refine Alike.bind (take_alike h ?_ ?_) ?_ ?_
          · decide
          · decide
          · intro _ _ _
            refine Alike.bind (base_alike h) ?_ ?_
            · rintro r r' rfl
              refine Alike.bind (take_alike h ?_ ?_) ?_ ?_
              · decide
              · decide
              · intro _ _ _
                exact effs_alike h f _
              · exact fun _ => effs_stuck f _
            · exact fun _ => stuck_bind (take_stuck (by decide)) (fun _ => effs_stuck f _)
          · exact fun _ => stuck_bind base_stuck (fun _ => stuck_bind (take_stuck (by decide)) (fun _ => effs_stuck f _))
        · exact fun _ => stuck_bind (take_stuck (by decide)) (fun _ => stuck_bind base_stuck (fun _ => stuck_bind (take_stuck (by decide)) (fun _ => effs_stuck f _)))
      · exact fun _ => stuck_bind base_stuck (fun _ => stuck_bind (take_stuck (by decide)) (fun _ => stuck_bind base_stuck (fun _ => stuck_bind (take_stuck (by decide)) (fun _ => effs_stuck f _))))
    · exact fun _ => stuck_bind (take_stuck (by decide)) (fun _ => stuck_bind base_stuck (fun _ => stuck_bind (take_stuck (by decide)) (fun _ => stuck_bind base_stuck (fun _ => stuck_bind (take_stuck (by decide)) (fun _ => effs_stuck f _)))))

variable (ws)
/-- The whole, as the specification reads it. -/
def wholeS : (List Ef × List Nd) × Ps := bindS (effsS ws (ws.length + 1) []) (fun es => bindS (spz ws (16 * ws.length + 11) .expr) (fun ns => pureS (es, ns))) ⟨0, false⟩
/-- The whole, as the program reads it: up to where words are left over. -/
def wholeI : Except Nat ((List Ef × Tr) × Nat) := bindI (effsI ws (ws.length + 1) []) (fun es => bindI (ipz ws (16 * ws.length + 11) .expr) (fun t => pureI (es, t))) 0
variable {ws}

theorem whole_alike (h : WordsOk ws) : match wholeI ws with
    | .ok r => wholeS ws = ((r.1.1, Tr.flat r.1.2), ⟨r.2, false⟩)
    | .error j => (wholeS ws).2 = ⟨j, true⟩ := by
  have ha : Alike (fun (a : List Ef × List Nd) (b : List Ef × Tr) => a.1 = b.1 ∧ a.2 = Tr.flat b.2) (bindS (effsS ws (ws.length + 1) []) (fun es => bindS (spz ws (16 * ws.length + 11) .expr) (fun ns => pureS (es, ns)))) (bindI (effsI ws (ws.length + 1) []) (fun es => bindI (ipz ws (16 * ws.length + 11) .expr) (fun t => pureI (es, t)))) := by
    refine Alike.bind (effs_alike h _ _) ?_ ?_
    · rintro es es' rfl
      refine Alike.bind (parse_alike h _ NtR.expr) ?_ ?_
      · intro ns t hf
        exact Alike.pure ⟨rfl, hf⟩
      · exact fun _ => stuck_pure _
    · exact fun _ => stuck_bind (stuck_all _ _) (fun _ => stuck_pure _)
  have hs := ha.same 0
  unfold wholeI wholeS
  split
  · rename_i r hr
    rw [hr] at hs
    obtain ⟨⟨a, b⟩, h1, h2, h3⟩ := hs
    dsimp only at h2 h3
    rw [h1, h2, h3]
  · rename_i j hr
    rw [hr] at hs
    exact hs
end
end Go.Proofs.YtkdipppeljpgmaaGreatDoor
