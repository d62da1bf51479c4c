/- The trees that are read are whole: each node has as many kids as it tells. -/
import Derived.Test.YtkdipppeljpgmaaGreatDoorParseEffs
namespace Go.Proofs.YtkdipppeljpgmaaGreatDoor
open Go.RowKit

def TrOk (t : Tr) : Prop := t.1.kids = t.2.count ∧ t.2.wf

/-- Whatever is read is such. -/
def AllI {α : Type} (P : α → Prop) (p : PI α) : Prop := ∀ i r, p i = .ok r → P r.1

section
variable {α β : Type} {P : α → Prop} {Q : β → Prop}

theorem AllI.bind {p : PI α} {k : α → PI β} (h : AllI P p) (hk : ∀ a, P a → AllI Q (k a)) : AllI Q (bindI p k) := fun i r hr => by
  unfold bindI at hr
  cases he : p i with
  | error j =>
    rw [he] at hr
    cases hr
  | ok x =>
    rw [he] at hr
    exact hk x.1 (h i x he) x.2 r hr

theorem AllI.pure {a : α} (h : P a) : AllI P (pureI a) := fun i r hr => by
  cases hr
  exact h

theorem AllI.any (p : PI α) : AllI (fun _ => True) p := fun _ _ _ => trivial

theorem AllI.or {ws : List Wd} {l : List UInt8} {p q : PI α} (h1 : AllI P p) (h2 : AllI P q) : AllI P (orI ws l p q) := fun i r hr => by
  unfold orI at hr
  split at hr
  · exact h1 _ r hr
  · exact h2 _ r hr

theorem AllI.skip {p : PI α} {k : α → PI β} (hk : ∀ a, AllI Q (k a)) : AllI Q (bindI p k) := AllI.bind (AllI.any p) (fun a _ => hk a)
end

theorem foL_count : ∀ (l : List Tr), (foL l).count = l.length
  | [] => rfl
  | t :: r => by simp [foL, Fo.count, foL_count r]

theorem foL_wf : ∀ (l : List Tr), (∀ t ∈ l, TrOk t) → (foL l).wf
  | [], _ => trivial
  | t :: r, h => ⟨(h t (by simp)).1, (h t (by simp)).2, foL_wf r (fun x hx => h x (by simp [hx]))⟩

theorem mk_ok (n : Nd) (ks : List Tr) (h : ∀ t ∈ ks, TrOk t) : TrOk (mkT n ks) := by
  refine ⟨?_, foL_wf ks h⟩
  show (ks.length : Int) = ((foL ks).count : Int)
  rw [foL_count]

def NtOk : Nt Tr → Prop
  | .sumL a => TrOk a
  | .prodL a => TrOk a
  | .callL a => TrOk a
  | .opsL _ ks => ∀ t ∈ ks, TrOk t
  | _ => True

theorem ok0 (n : Nd) : TrOk (mkT n []) := mk_ok n [] (fun t ht => by cases ht)
theorem ok1 {n : Nd} {a : Tr} (h : TrOk a) : TrOk (mkT n [a]) := mk_ok n [a] (fun t ht => by simp at ht; subst ht; exact h)
theorem ok2 {n : Nd} {a b : Tr} (h : TrOk a) (h' : TrOk b) : TrOk (mkT n [a, b]) := mk_ok n [a, b] (fun t ht => by simp at ht; rcases ht with rfl | rfl; exact h; exact h')
theorem ok3 {n : Nd} {a b c : Tr} (h : TrOk a) (h' : TrOk b) (h'' : TrOk c) : TrOk (mkT n [a, b, c]) := mk_ok n [a, b, c] (fun t ht => by simp at ht; rcases ht with rfl | rfl | rfl; exact h; exact h'; exact h'')

section
variable {ws : List Wd} {go : Nt Tr → PI Tr}

theorem step_ok (hg : ∀ nt, NtOk nt → AllI TrOk (go nt)) : ∀ nt, NtOk nt → AllI TrOk (stepI ws go nt) := by
  have ex := hg .expr trivial
  have at' := hg .atom trivial
  have cl := hg .call trivial
  have pr := hg .prod trivial
  have sm := hg .sum trivial
  intro nt hn
  cases nt with
  | expr =>
    refine AllI.or (AllI.or ?_ ?_) (AllI.or ?_ (AllI.or ?_ (AllI.or ?_ (hg .cons trivial))))
    · exact AllI.skip fun _ => AllI.skip fun _ => AllI.skip fun _ => ex.bind fun a ha => AllI.skip fun _ => ex.bind fun b hb => AllI.pure (ok2 ha hb)
    · exact AllI.skip fun _ => AllI.skip fun _ => ex.bind fun a ha => AllI.skip fun _ => ex.bind fun b hb => AllI.pure (ok2 ha hb)
    · exact ex.bind fun a ha => AllI.skip fun _ => ex.bind fun b hb => AllI.skip fun _ => ex.bind fun c hc => AllI.pure (ok3 ha hb hc)
    · exact AllI.skip fun _ => AllI.skip fun _ => ex.bind fun a ha => AllI.pure (ok1 ha)
    · exact ex.bind fun a ha => AllI.skip fun _ => AllI.skip fun _ => AllI.skip fun _ => ex.bind fun b hb => AllI.skip fun _ => AllI.skip fun _ => AllI.skip fun _ => AllI.skip fun _ => AllI.skip fun _ => ex.bind fun c hc => AllI.pure (ok3 ha hb hc)
  | cons => exact (hg .comp trivial).bind fun a ha => AllI.or ((hg .cons trivial).bind fun b hb => AllI.pure (ok2 ha hb)) (AllI.pure ha)
  | comp => exact sm.bind fun a ha => AllI.or (sm.bind fun b hb => AllI.pure (ok2 ha hb)) (AllI.or (sm.bind fun b hb => AllI.pure (ok2 ha hb)) (AllI.pure ha))
  | sum => exact pr.bind fun a ha => hg (.sumL a) ha
  | prod => exact cl.bind fun a ha => hg (.prodL a) ha
  | sumL a => exact AllI.or (pr.bind fun b hb => hg (.sumL _) (ok2 hn hb)) (AllI.or (pr.bind fun b hb => hg (.sumL _) (ok2 hn hb)) (AllI.pure hn))
  | prodL a => exact AllI.or (cl.bind fun b hb => hg (.prodL _) (ok2 hn hb)) (AllI.pure hn)
  | call =>
    refine AllI.bind (P := TrOk) ?_ fun a ha => hg (.callL a) ha
    exact AllI.or (at'.bind fun a ha => AllI.pure (ok1 ha)) (AllI.or (at'.bind fun a ha => AllI.pure (ok1 ha)) (AllI.or (at'.bind fun a ha => AllI.pure (ok1 ha)) (AllI.or (AllI.skip fun _ => at'.bind fun a ha => AllI.pure (ok1 ha)) at')))
  | callL a =>
    intro i r hr
    simp only [stepI, callLI] at hr
    split at hr
    · exact (at'.bind fun b hb => hg (.callL (mkT (nd0 7) [a, b])) (ok2 hn hb)) i r hr
    · exact AllI.pure (show TrOk a from hn) i r hr
  | atom =>
    intro i r hr
    simp only [stepI, atomI] at hr
    split at hr
    · have hb : AllI TrOk (brackI ws go) := AllI.or (AllI.pure (ok0 _)) (ex.bind fun a ha => AllI.or (ex.bind fun b hb => AllI.skip fun _ => AllI.pure (ok2 ha hb)) (AllI.skip fun _ => AllI.pure ha))
      have hw : ∀ w, AllI TrOk (wordI ws go w) := fun w => by
        unfold wordI
        split
        · exact AllI.pure (ok0 _)
        split
        · exact AllI.pure (ok0 _)
        split
        · exact AllI.pure (ok0 _)
        split
        · exact AllI.pure (ok0 _)
        split
        · exact AllI.pure (ok0 _)
        split
        · exact hg (.hand 23) trivial
        split
        · exact hg (.hand 24) trivial
        · exact hb
      exact hw _ _ r hr
    · cases hr
  | hand k =>
    refine ex.bind fun a ha => AllI.skip fun _ => AllI.skip fun _ => AllI.skip fun x => AllI.skip fun _ => ex.bind fun b hb => hg (.opsL k [a, mkT (nd1 25 x) [b]]) (show ∀ t ∈ [a, mkT (nd1 25 x) [b]], TrOk t from fun t ht => ?_)
    simp only [List.mem_cons, List.not_mem_nil, or_false] at ht
    rcases ht with rfl | rfl
    · exact ha
    · exact ok1 hb
  | opsL k ks =>
    refine AllI.or ?_ (AllI.skip fun _ => AllI.pure (mk_ok _ _ hn))
    refine AllI.skip fun _ => AllI.skip fun _ => AllI.skip fun _ => AllI.skip fun _ => ex.bind fun e he => hg (.opsL k _) (fun t ht => ?_)
    rw [List.mem_append, List.mem_singleton] at ht
    rcases ht with ht | rfl
    · exact hn t ht
    · exact ok1 he

theorem read_ok : ∀ (f : Nat) (nt : Nt Tr), NtOk nt → AllI TrOk (ipz ws f nt)
  | 0, _, _ => fun i r hr => by cases hr
  | f + 1, nt, hn => step_ok (fun nt hn => read_ok f nt hn) nt hn

theorem whole_ok {r : (List Ef × Tr) × Nat} (h : wholeI ws = .ok r) : TrOk r.1.2 := by
  have hA : AllI (fun x : List Ef × Tr => TrOk x.2) (bindI (effsI ws (ws.length + 1) []) (fun es => bindI (ipz ws (16 * ws.length + 11) .expr) (fun t => pureI (es, t)))) :=
    AllI.skip fun es => (read_ok _ .expr trivial).bind fun t ht => AllI.pure ht
  exact hA 0 r h
end
end Go.Proofs.YtkdipppeljpgmaaGreatDoor
