/- A region that draws its order, walked in the order of the text: an operation that only reads may be taken first; one that is alone ready is carried out, and may change the world. -/
import Derived.Test.YtkdipppeljpgmaaGreatDoorCalm
import Derived.Deep.RegionHeld3
namespace Go.Proofs.YtkdipppeljpgmaaGreatDoor
open Go.RowKit

/-- The first k operations have come up. -/
def upTo (n k : Nat) : Array Bool := ((List.range n).map (fun i => decide (i < k))).toArray

theorem upTo_zero (n : Nat) : upTo n 0 = Array.replicate n false := by
  apply Array.ext
  · simp [upTo]
  · intro i h1 h2
    simp [upTo]

theorem upTo_next {n k : Nat} : (upTo n k).setIfInBounds k true = upTo n (k + 1) := by
  apply Array.ext
  · simp [upTo]
  · intro i h1 h2
    by_cases hik : k = i
    · subst hik
      simp [upTo]
    · simp [upTo, hik]
      omega

/-- Operations that hand a value on and do nothing else. -/
def plainOp (o : Oper) : Bool :=
  match o.op with
  | .move _ | .assign _ | .pick _ _ _ | .load _ _ | .nilCheck _ | .binOp _ _ _ _ _ | .unOp _ _ _ | .fieldAddr _ _ _ | .field _ _ _ | .indexAddr _ _ _ | .index _ _ _ | .convert _ _ _ | .slice _ _ _ _ _ => true
  | _ => false

theorem then_value {α : Type} {s : Result α} {f : α → Value} {n : Next} {w' : World} (h : s.andThen (fun a w => Result.ok (Next.value (f a)) w) = .ok n w') : ∃ v, n = .value v := by
  cases s with
  | ok a w => cases h; exact ⟨_, rfl⟩
  | halt x w => cases h

theorem then_ok {α β : Type} {s : Result α} {f : α → World → Result β} {n : β} {w' : World} (h : s.andThen f = .ok n w') : ∃ a w, f a w = .ok n w' := by
  cases s with
  | ok a w => exact ⟨a, w, h⟩
  | halt x w => cases h

theorem plain_value {P : Program} {a : Act} {o : Oper} {w w' : World} {n : Next} (hp : plainOp o = true) (h : (execOp a.eval o).run P w = .ok n w') : ∃ v, n = .value v := by
  obtain ⟨dst, op, type, pos, after, guard⟩ := o
  cases op <;> simp only [plainOp] at hp <;> try (cases hp; done)
  all_goals
    unfold execOp at h
    simp only [Sem.run_bind, Sem.run_pure] at h
  all_goals first
    | exact then_value h
    | (cases h; exact ⟨_, rfl⟩)
    | (split at h
       all_goals first
         | (cases h; exact ⟨_, rfl⟩)
         | (cases h; done)
         | (split at h
            all_goals first
              | (cases h; exact ⟨_, rfl⟩)
              | (cases h; done)
              | (simp only [Sem.run_bind] at h
                 obtain ⟨_, _, h⟩ := then_ok h
                 obtain ⟨_, _, h⟩ := then_ok h
                 split at h
                 · simp only [Sem.run_bind] at h
                   cases h
                 · cases h
                   exact ⟨_, rfl⟩)))

section
variable {P : Program} {Q : Exit → Act → World → Prop} {S : World → Prop} {l0 : List Oper}

/-- May operation k be taken now, all ahead of it having come up? It only reads and is free, or it alone is ready. -/
def stepB (l0 : List Oper) (k : Nat) : Bool :=
  match l0[k]? with
  | none => false
  | some o => ((Region.ready .any l0.toArray (upTo l0.length k)).contains k && Region.free .any l0.toArray (upTo l0.length k) k && plainOp o) || (Region.ready .any l0.toArray (upTo l0.length k) == [k])

def walkB (l0 : List Oper) (k : Nat) : Nat → Bool
  | 0 => true
  | m + 1 => stepB l0 k && walkB l0 (k + 1) m

theorem stage_op (hs : Region.noSelect l0.toArray = true) {k : Nat} {o : Oper} (ho : l0[k]? = some o) (hB : stepB l0 k = true) {a : Act} {w : World} (hS : S w)
    (h : if Region.wanted o (yielded l0.toArray a.tmps) then o.quiet P a S (fun a' => ∀ w', S w' → wpAnyH P .any l0.toArray (NoPanic Q) S (l0.length - (k + 1)) (upTo l0.length (k + 1)) a' w') else ∀ w', S w' → wpAnyH P .any l0.toArray (NoPanic Q) S (l0.length - (k + 1)) (upTo l0.length (k + 1)) (a.put o.dst undef) w') :
    wpAnyH P .any l0.toArray (NoPanic Q) S (l0.length - k) (upTo l0.length k) a w := by
  have hk : k < l0.length := (List.getElem?_eq_some_iff.1 ho).1
  have e : l0.length - k = l0.length - (k + 1) + 1 := by omega
  have ho' : l0.toArray[k]? = some o := by simpa using ho
  rw [e]
  unfold stepB at hB
  rw [ho] at hB
  simp only [Bool.or_eq_true, Bool.and_eq_true] at hB
  rcases hB with ⟨⟨hr, hf⟩, hp⟩ | hr
  · by_cases hw : Region.wanted o (yielded l0.toArray a.tmps) = true
    · rw [if_pos hw] at h
      obtain ⟨v, hv, hn⟩ := h
      refine wpAnyH_take (v := v) ho' hs hf hr (fun c a w h => h) (Or.inl ⟨hw, fun w' hw' => ?_⟩) hS (by rw [upTo_next]; exact hn w hS)
      have hq := hv w' hw'
      unfold Oper.quietAt at hq
      cases hx : (execOp a.eval o).run P w' with
      | halt x w2 => rw [hx] at hq; exact hq.elim
      | ok n w2 =>
        obtain ⟨u, rfl⟩ := plain_value hp hx
        rw [hx] at hq
        obtain ⟨rfl, rfl⟩ := hq
        rfl
    · rw [if_neg hw] at h
      exact wpAnyH_take (v := undef) ho' hs hf hr (fun c a w h => h) (Or.inr ⟨by simpa using hw, rfl⟩) hS (by rw [upTo_next]; exact h w hS)
  · refine wpAnyH_all (rs := [k]) (by simpa using hr) (by simp) (fun i hi => ?_)
    rw [List.mem_singleton] at hi
    subst hi
    unfold wpOp
    rw [ho', upTo_next]
    dsimp only
    by_cases hw : Region.wanted o (yielded l0.toArray a.tmps) = true
    · rw [if_pos hw] at h ⊢
      obtain ⟨v, hv, hn⟩ := h
      refine Or.inl ?_
      have hq := hv w hS
      unfold Oper.quietAt at hq
      unfold Oper.wp
      cases hx : (execOp a.eval o).run P w with
      | halt x w2 => rw [hx] at hq; exact hq.elim
      | ok n w2 =>
        rw [hx] at hq
        cases n <;> simp only [Oper.quietUpon] at hq
        case value u =>
          obtain ⟨rfl, rfl⟩ := hq
          exact ⟨hS, hn _ hS⟩
        case skip =>
          obtain ⟨rfl, rfl⟩ := hq
          exact ⟨hS, hn _ hS⟩
        case enter f args =>
          obtain ⟨rfl, hc⟩ := hq
          refine Calls.mono hc ?_
          rintro e w3 ⟨rfl, hC⟩
          exact ⟨hC, hn _ hC⟩
    · rw [if_neg hw] at h ⊢
      exact ⟨hS, h w hS⟩

/-- A stretch of the region, every operation quiet in the class: what follows is asked in every world of it. -/
theorem stage_walk (hs : Region.noSelect l0.toArray = true) : ∀ (m k : Nat) (a : Act) (w : World), walkB l0 k m = true → S w →
    wpQuiet P l0.toArray S (fun a' => ∀ w', S w' → wpAnyH P .any l0.toArray (NoPanic Q) S (l0.length - (k + m)) (upTo l0.length (k + m)) a' w') ((l0.drop k).take m) a →
    wpAnyH P .any l0.toArray (NoPanic Q) S (l0.length - k) (upTo l0.length k) a w
  | 0, k, a, w, _, hS, h => h w hS
  | m + 1, k, a, w, hB, hS, h => by
    unfold walkB at hB
    rw [Bool.and_eq_true] at hB
    have ⟨o, ho⟩ : ∃ o, l0[k]? = some o := by
      cases hx : l0[k]? with
      | none => have := hB.1; unfold stepB at this; rw [hx] at this; cases this
      | some o => exact ⟨o, rfl⟩
    have hd : l0.drop k = o :: l0.drop (k + 1) := by
      have hk := List.getElem?_eq_some_iff.1 ho
      rw [List.drop_eq_getElem_cons hk.1, hk.2]
    rw [hd, List.take_succ_cons] at h
    refine stage_op hs ho hB.1 hS ?_
    unfold wpQuiet at h
    have e : k + (m + 1) = k + 1 + m := by omega
    rw [e] at h
    split
    · rename_i hw
      rw [if_pos hw] at h
      exact Oper.quiet_mono (fun a' h' w' hw' => stage_walk hs m (k + 1) a' w' hB.2 hw' h') h
    · rename_i hw
      rw [if_neg hw] at h
      exact fun w' hw' => stage_walk hs m (k + 1) _ w' hB.2 hw' h

/-- One operation that is alone ready and makes something: the world behind it is told. -/
theorem stage_make {k : Nat} {o : Oper} {v : Value} {a a' : Act} {w w1 : World} (ho : l0[k]? = some o) (hr : (Region.ready .any l0.toArray (upTo l0.length k) == [k]) = true) (hw : Region.wanted o (yielded l0.toArray a.tmps) = true)
    (hrun : (execOp a.eval o).run P w = .ok (.value v) w1) (hS : S w1) (hput : a.put o.dst v = a') (h : wpAnyH P .any l0.toArray (NoPanic Q) S (l0.length - (k + 1)) (upTo l0.length (k + 1)) a' w1) :
    wpAnyH P .any l0.toArray (NoPanic Q) S (l0.length - k) (upTo l0.length k) a w := by
  have hk : k < l0.length := (List.getElem?_eq_some_iff.1 ho).1
  have e : l0.length - k = l0.length - (k + 1) + 1 := by omega
  have ho' : l0.toArray[k]? = some o := by simpa using ho
  rw [e]
  refine wpAnyH_all (rs := [k]) (by simpa using hr) (by simp) (fun i hi => ?_)
  rw [List.mem_singleton] at hi
  subst hi
  unfold wpOp
  rw [ho', upTo_next]
  dsimp only
  rw [if_pos hw]
  refine Or.inl ?_
  unfold Oper.wp
  rw [hrun]
  subst hput
  exact ⟨hS, h⟩

theorem held_class {S' : World → Prop} (hc : ∀ w, S' w → S w) {ops : Array Oper} {md : Region.Mode} : ∀ (fuel : Nat) (listed : Array Bool) (a : Act) (w : World), wpAnyH P md ops Q S' fuel listed a w → wpAnyH P md ops Q S fuel listed a w
  | 0, _, _, _, h => h
  | fuel + 1, _, _, _, h => ⟨h.1, fun i hi => wpOp_mono (fun a' w' h' => ⟨hc _ h'.1, held_class hc fuel _ a' w' h'.2⟩) (h.2 i hi)⟩

/-- From here on a narrower class will do. -/
theorem stage_class {S' : World → Prop} (hc : ∀ w, S' w → S w) {k : Nat} {a : Act} {w : World} (h : wpAnyH P .any l0.toArray (NoPanic Q) S' (l0.length - k) (upTo l0.length k) a w) : wpAnyH P .any l0.toArray (NoPanic Q) S (l0.length - k) (upTo l0.length k) a w :=
  held_class hc _ _ _ _ h

/-- The region's end. -/
theorem stage_end {a : Act} {w : World} (hr : (Region.ready .any l0.toArray (upTo l0.length l0.length)).isEmpty = true) (h : Q .normal a w) : wpAnyH P .any l0.toArray (NoPanic Q) S (l0.length - l0.length) (upTo l0.length l0.length) a w :=
  wpAnyH_done (Q := NoPanic Q) (by simpa using hr) (NoPanic.normal h) _

/-- The region's beginning. -/
theorem stage_begin {id : Nat} {a : Act} {w : World} (hm : P.follows .mixedOrders = true) (h : wpAnyH P .any l0.toArray (NoPanic Q) S (l0.length - 0) (upTo l0.length 0) a w.drew) : (Code.region id l0.toArray true).wp P Q a w := by
  refine wp_region_noPanic (wp_region_held (S := S) hm ?_)
  rw [upTo_zero] at h
  simpa using h
end
end Go.Proofs.YtkdipppeljpgmaaGreatDoor
