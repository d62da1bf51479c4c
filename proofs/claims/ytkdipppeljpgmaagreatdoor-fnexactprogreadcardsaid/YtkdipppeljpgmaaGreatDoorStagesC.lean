/- A region that draws its order, cut at a call: up to it one class of worlds, behind it another. What comes ahead of the call by the order that binds is walked under the first class. -/
import Derived.Test.YtkdipppeljpgmaaGreatDoorStagesE
namespace Go.Proofs.YtkdipppeljpgmaaGreatDoor
open Go.RowKit
section
variable {P : Program} {ops : Array Oper} {Q : Exit → Act → World → Prop} {S : World → Prop}

/-- Does c wait for i, at once or through others? -/
def waitsB (ops : Array Oper) : Nat → Nat → Nat → Bool
  | 0, _, _ => false
  | f + 1, c, i => match ops[c]? with
    | none => false
    | some o => o.after.any (fun e => Region.binds .any e && (e.on == i || waitsB ops f e.on i))

/-- What has come up came behind what it waits for. -/
def ShutL (ops : Array Oper) (listed : Array Bool) : Prop := ∀ (j : Nat) (o : Oper), ops[j]? = some o → listed.getD j false = true → ∀ e ∈ o.after, Region.binds .any e = true → listed.getD e.on false = true

theorem ShutL.waits {listed : Array Bool} (h : ShutL ops listed) : ∀ (f c i : Nat), waitsB ops f c i = true → listed.getD c false = true → listed.getD i false = true
  | 0, _, _, hw, _ => by cases hw
  | f + 1, c, i, hw, hc => by
    unfold waitsB at hw
    cases ho : ops[c]? with
    | none => rw [ho] at hw; cases hw
    | some o =>
      rw [ho] at hw
      dsimp only at hw
      rw [Array.any_eq_true'] at hw
      obtain ⟨e, he, hb⟩ := hw
      rw [Bool.and_eq_true, Bool.or_eq_true] at hb
      have h1 := h c o ho hc e he hb.1
      rcases hb.2 with h2 | h2
      · rw [beq_iff_eq] at h2
        rw [← h2]
        exact h1
      · exact ShutL.waits h f e.on i h2 h1

theorem ShutL.next {listed : Array Bool} (h : ShutL ops listed) {i : Nat} (hr : i ∈ Region.ready .any ops listed) : ShutL ops (listed.setIfInBounds i true) := by
  intro j o ho hj e he hb
  obtain ⟨_, oi, hoi, hall⟩ := mem_ready.1 hr
  by_cases hij : i = j
  · subst hij
    rw [hoi] at ho
    cases ho
    exact getD_set_true (hall e he hb)
  · rw [getD_set_ne false hij] at hj
    exact getD_set_true (h j o ho hj e he hb)

/-- Whatever order is picked, until c has come up; S holds behind each operation; then K. -/
def wpTill (P : Program) (ops : Array Oper) (Q : Exit → Act → World → Prop) (S : World → Prop) (c : Nat) (K : Nat → Array Bool → Act → World → Prop) : Nat → Array Bool → Act → World → Prop
  | 0, _, _, _ => False
  | fuel + 1, listed, a, w => Region.ready .any ops listed ≠ [] ∧ ∀ i ∈ Region.ready .any ops listed, if i = c then wpOp P ops Q i (fun a' w' => K fuel (listed.setIfInBounds i true) a' w') a w else wpOp P ops Q i (fun a' w' => S w' ∧ wpTill P ops Q S c K fuel (listed.setIfInBounds i true) a' w') a w

theorem any_of_till {c : Nat} : ∀ (fuel : Nat) (listed : Array Bool) (a : Act) (w : World), wpTill P ops Q S c (wpAny P .any ops Q) fuel listed a w → wpAny P .any ops Q fuel listed a w
  | 0, _, _, _, h => h.elim
  | fuel + 1, listed, a, w, h => ⟨fun h0 => absurd h0 h.1, fun i hi => by
      have h1 := h.2 i hi
      split at h1
      · exact h1
      · exact wpOp_mono (fun a' w' h' => any_of_till fuel _ a' w' h'.2) h1⟩

/-- What c waits for, and yields its value in every world of S, may be taken first. -/
theorem till_first {c i : Nat} {oi : Oper} {v : Value} {K : Nat → Array Bool → Act → World → Prop} {f : Nat} (hi : ops[i]? = some oi) (hsel : Region.noSelect ops = true)
    (hQ : ∀ d a w, Q (.panic d) (a.put oi.dst v) w → Q (.panic d) a w) (hc : waitsB ops f c i = true) (hic : i ≠ c) :
    ∀ (fuel : Nat) (listed : Array Bool) (a : Act) (w : World), ShutL ops listed →
      (∀ j oj, ops[j]? = some oj → j ≠ i → listed.getD j true = false → (∀ e ∈ oj.after, Region.binds .any e = true → e.on ≠ i) → oi.apart ops oj = true) →
      i ∈ Region.ready .any ops listed → YieldsIf P ops S oi v a → S w →
      wpTill P ops Q S c K fuel (listed.setIfInBounds i true) (a.put oi.dst v) w → wpTill P ops Q S c K (fuel + 1) listed a w
  | 0, _, _, _, _, _, _, _, _, H => H.elim
  | fuel + 1, listed, a, w, hsh, hfree, hr, hy, hS, H => by
    refine ⟨fun h => by rw [h] at hr; exact (List.not_mem_nil hr).elim, fun j hj => ?_⟩
    by_cases hji : j = i
    · subst hji
      rw [if_neg hic]
      exact hy.wpOp hi hS ⟨hS, H⟩
    obtain ⟨hjun, oj, hoj, hall⟩ := mem_ready.1 hj
    have hir := (mem_ready.1 hr).1
    have hlast : listed.getD i false = true → False := fun h => by
      rcases Nat.lt_or_ge i listed.size with h' | h'
      · simp [h'] at hir h
        rw [hir] at h
        cases h
      · simp [Array.getElem?_eq_none h'] at h
    have hjc : j ≠ c := fun e => by
      subst e
      refine hlast ?_
      -- j is ready: all it waits for has come up
      cases f with
      | zero => cases hc
      | succ f =>
        unfold waitsB at hc
        rw [hoj] at hc
        dsimp only at hc
        rw [Array.any_eq_true'] at hc
        obtain ⟨e, he, hb⟩ := hc
        rw [Bool.and_eq_true, Bool.or_eq_true] at hb
        have h1 := hall e he hb.1
        rcases hb.2 with h2 | h2
        · rw [beq_iff_eq] at h2
          rw [← h2]
          exact h1
        · exact hsh.waits f e.on i h2 h1
    have h1 := H.2 j (ready_mono hj hji)
    rw [if_neg hjc] at h1 ⊢
    have hnot : ∀ e ∈ oj.after, Region.binds .any e = true → e.on ≠ i := fun e he hb heq => by
      have := hall e he hb
      rw [heq] at this
      exact hlast this
    have hsp := Region.noSelect_spec hsel
    have h2 := wpOp_putIf hoj (hfree j oj hoj hji hjun hnot) (fun cs b => hsp i oi cs b hi) (fun cs b => hsp j oj cs b hoj) hQ hy h1
    refine wpOp_mono (fun a' w' h3 => ⟨h3.2.1, till_first hi hsel hQ hc hic fuel (listed.setIfInBounds j true) a' w' (hsh.next hj) (fun k ok hk hki hun hno => hfree k ok hk hki ?_ hno) (ready_mono hr (Ne.symm hji)) h3.1 h3.2.1 ?_⟩) h2
    · by_cases hjk : j = k
      · subst hjk
        exact hjun
      · rw [getD_set_ne true hjk] at hun
        exact hun
    · rw [Array.setIfInBounds_comm _ _ hji]
      exact h3.2.2

/-- What yields its value in whatever world may be taken first, also where c does not wait for it. -/
theorem till_first_any {c i : Nat} {oi : Oper} {v : Value} (hi : ops[i]? = some oi) (hsel : Region.noSelect ops = true)
    (hQ : ∀ d a w, Q (.panic d) (a.put oi.dst v) w → Q (.panic d) a w) (hic : i ≠ c) :
    ∀ (fuel : Nat) (listed : Array Bool) (a : Act) (w : World),
      (∀ j oj, ops[j]? = some oj → j ≠ i → listed.getD j true = false → (∀ e ∈ oj.after, Region.binds .any e = true → e.on ≠ i) → oi.apart ops oj = true) →
      i ∈ Region.ready .any ops listed → Yields P ops oi v a → S w →
      wpTill P ops Q S c (wpAny P .any ops Q) fuel (listed.setIfInBounds i true) (a.put oi.dst v) w → wpTill P ops Q S c (wpAny P .any ops Q) (fuel + 1) listed a w
  | 0, _, _, _, _, _, _, _, H => H.elim
  | fuel + 1, listed, a, w, hfree, hr, hy, hS, H => by
    refine ⟨fun h => by rw [h] at hr; exact (List.not_mem_nil hr).elim, fun j hj => ?_⟩
    by_cases hji : j = i
    · subst hji
      rw [if_neg hic]
      exact (Yields.yieldsIf hy).wpOp hi hS ⟨hS, H⟩
    obtain ⟨hjun, oj, hoj, hall⟩ := mem_ready.1 hj
    have hir := (mem_ready.1 hr).1
    have hlast : listed.getD i false = true → False := fun h => by
      rcases Nat.lt_or_ge i listed.size with h' | h'
      · simp [h'] at hir h
        rw [hir] at h
        cases h
      · simp [Array.getElem?_eq_none h'] at h
    have hnot : ∀ e ∈ oj.after, Region.binds .any e = true → e.on ≠ i := fun e he hb heq => by
      have := hall e he hb
      rw [heq] at this
      exact hlast this
    have hsp := Region.noSelect_spec hsel
    have hap := hfree j oj hoj hji hjun hnot
    have hf' : ∀ k ok, ops[k]? = some ok → k ≠ i → (listed.setIfInBounds j true).getD k true = false → (∀ e ∈ ok.after, Region.binds .any e = true → e.on ≠ i) → oi.apart ops ok = true := fun k ok hk hki hun hno => by
      refine hfree k ok hk hki ?_ hno
      by_cases hjk : j = k
      · subst hjk
        exact hjun
      · rw [getD_set_ne true hjk] at hun
        exact hun
    have all : ∀ a', YieldsIf P ops (fun _ => True) oi v a' → Yields P ops oi v a' := fun a' h => h.imp (fun ⟨hw, hv⟩ => ⟨hw, fun w => hv w trivial⟩) id
    have h1 := H.2 j (ready_mono hj hji)
    by_cases hjc : j = c
    · subst hjc
      rw [if_pos rfl] at h1 ⊢
      have h2 := wpOp_putIf hoj hap (fun cs b => hsp i oi cs b hi) (fun cs b => hsp j oj cs b hoj) hQ (Yields.yieldsIf (S := fun _ => True) hy) h1
      refine wpOp_mono (fun a' w' h3 => wpAny_first hi (fun k o cs b hk => hsp k o cs b hk) hQ fuel (listed.setIfInBounds j true) a' w' hf' (ready_mono hr (Ne.symm hji)) (all a' h3.1) ?_) h2
      rw [Array.setIfInBounds_comm _ _ hji]
      exact h3.2
    · rw [if_neg hjc] at h1 ⊢
      have h2 := wpOp_putIf hoj hap (fun cs b => hsp i oi cs b hi) (fun cs b => hsp j oj cs b hoj) hQ (Yields.yieldsIf (S := fun _ => True) hy) h1
      refine wpOp_mono (fun a' w' h3 => ⟨h3.2.1, till_first_any hi hsel hQ hic fuel (listed.setIfInBounds j true) a' w' hf' (ready_mono hr (Ne.symm hji)) (all a' h3.1) h3.2.1 ?_⟩) h2
      rw [Array.setIfInBounds_comm _ _ hji]
      exact h3.2.2
end

section
variable {P : Program} {Q : Exit → Act → World → Prop} {S : World → Prop} {l0 : List Oper}

/-- Operations that hand on what a slot holds. -/
def moveB (o : Oper) : Bool :=
  match o.op with
  | .move _ | .assign _ => true
  | _ => false

theorem move_any {a : Act} {o : Oper} (h : moveB o = true) : ∃ v, ∀ w, (execOp a.eval o).run P w = .ok (.value v) w := by
  obtain ⟨dst, op, type, pos, after, guard⟩ := o
  cases op <;> simp only [moveB] at h <;> try (cases h; done)
  all_goals exact ⟨_, fun w => rfl⟩

/-- May operation k be taken now, ahead of c? -/
def stepC (l0 : List Oper) (c k : Nat) : Bool :=
  match l0[k]? with
  | none => false
  | some o => !(k == c) && (((Region.ready .any l0.toArray (upTo l0.length k)).contains k && Region.free .any l0.toArray (upTo l0.length k) k && plainOp o && (waitsB l0.toArray l0.length c k || moveB o)) || (Region.ready .any l0.toArray (upTo l0.length k) == [k]))

def walkC (l0 : List Oper) (c k : Nat) : Nat → Bool
  | 0 => true
  | m + 1 => stepC l0 c k && walkC l0 c (k + 1) m

/-- All that is ahead of k has come up, and nothing else. -/
def shutB (l0 : List Oper) (k : Nat) : Bool := (List.range k).all (fun j => match l0[j]? with
  | none => true
  | some o => o.after.all (fun e => !Region.binds .any e || decide (e.on < k)))

theorem shut_upTo {k : Nat} (hk : k ≤ l0.length) (h : shutB l0 k = true) : ShutL l0.toArray (upTo l0.length k) := by
  intro j o ho hj e he hb
  unfold shutB at h
  rw [List.all_eq_true] at h
  have hjk : j < k := by
    by_cases hjl : j < l0.length
    · simp [upTo, hjl] at hj
      exact hj
    · simp [upTo, hjl] at hj
  have h1 := h j (List.mem_range.2 hjk)
  rw [show l0[j]? = some o by simpa using ho] at h1
  dsimp only at h1
  rw [Array.all_eq_true_iff_forall_mem] at h1
  have h2 := h1 e he
  rw [hb] at h2
  have h3 : e.on < k := by simpa using h2
  have h4 : e.on < l0.length := by omega
  simp [upTo, h4, h3]

/-- One operation ahead of the cut. -/
theorem till_op (hs : Region.noSelect l0.toArray = true) {c k : Nat} {o : Oper} (ho : l0[k]? = some o) (hsh : shutB l0 k = true) (hB : stepC l0 c k = true) {a : Act} {w : World} (hS : S w)
    (h : if Region.wanted o (yielded l0.toArray a.tmps) then o.quiet P a S (fun a' => ∀ w', S w' → wpTill P l0.toArray (NoPanic Q) S c (wpAny P .any l0.toArray (NoPanic Q)) (l0.length - (k + 1)) (upTo l0.length (k + 1)) a' w') else ∀ w', S w' → wpTill P l0.toArray (NoPanic Q) S c (wpAny P .any l0.toArray (NoPanic Q)) (l0.length - (k + 1)) (upTo l0.length (k + 1)) (a.put o.dst undef) w') :
    wpTill P l0.toArray (NoPanic Q) S c (wpAny P .any l0.toArray (NoPanic Q)) (l0.length - k) (upTo l0.length k) a w := by
  have hk : k < l0.length := (List.getElem?_eq_some_iff.1 ho).1
  have e : l0.length - k = l0.length - (k + 1) + 1 := by omega
  have ho' : l0.toArray[k]? = some o := by simpa using ho
  rw [e]
  unfold stepC at hB
  rw [ho] at hB
  rw [Bool.and_eq_true, Bool.or_eq_true, Bool.and_eq_true, Bool.and_eq_true, Bool.and_eq_true] at hB
  obtain ⟨hkc, hB⟩ := hB
  have hkc' : k ≠ c := by simpa using hkc
  rcases hB with ⟨⟨⟨hr, hf⟩, hp⟩, hwt⟩ | hr
  · have take : ∀ v, YieldsIf P l0.toArray S o v a → wpTill P l0.toArray (NoPanic Q) S c (wpAny P .any l0.toArray (NoPanic Q)) (l0.length - (k + 1)) (upTo l0.length (k + 1)) (a.put o.dst v) w → wpTill P l0.toArray (NoPanic Q) S c (wpAny P .any l0.toArray (NoPanic Q)) (l0.length - (k + 1) + 1) (upTo l0.length k) a w := fun v hy hn =>
      by
        rw [Bool.or_eq_true] at hwt
        rcases hwt with hwt | hmv
        · exact till_first ho' hs (fun d a w h => h) hwt hkc' _ _ _ _ (shut_upTo (by omega) hsh) (Region.free_spec ho' hf) (by simpa using hr) hy hS (by rw [upTo_next]; exact hn)
        · refine till_first_any ho' hs (fun d a w h => h) hkc' _ _ _ _ (Region.free_spec ho' hf) (by simpa using hr) ?_ hS (by rw [upTo_next]; exact hn)
          rcases hy with ⟨hw, hv⟩ | ⟨hw, hv⟩
          · obtain ⟨u, hu⟩ := move_any (P := P) (a := a) hmv
            have e1 := hv w hS
            rw [hu w] at e1
            cases e1
            exact Or.inl ⟨hw, hu⟩
          · exact Or.inr ⟨hw, hv⟩
    by_cases hw : Region.wanted o (yielded l0.toArray a.tmps) = true
    · rw [if_pos hw] at h
      obtain ⟨v, hv, hn⟩ := h
      refine take v (Or.inl ⟨hw, fun w' hw' => ?_⟩) (hn w hS)
      have hq := hv w' hw'
      unfold Oper.quietAt at hq
      cases hx : (execOp a.eval o).run P w' with
      | halt x w2 => rw [hx] at hq; exact hq.elim
      | ok n w2 =>
        obtain ⟨u, rfl⟩ := plain_value hp hx
        rw [hx] at hq
        obtain ⟨rfl, rfl⟩ := hq
        rfl
    · rw [if_neg hw] at h
      exact take undef (Or.inr ⟨by simpa using hw, rfl⟩) (h w hS)
  · have hr' : Region.ready .any l0.toArray (upTo l0.length k) = [k] := by simpa using hr
    refine ⟨by rw [hr']; simp, fun i hi => ?_⟩
    rw [hr', List.mem_singleton] at hi
    subst hi
    rw [if_neg hkc']
    unfold wpOp
    rw [ho', upTo_next]
    dsimp only
    by_cases hw : Region.wanted o (yielded l0.toArray a.tmps) = true
    · rw [if_pos hw] at h ⊢
      obtain ⟨v, hv, hn⟩ := h
      refine Or.inl ?_
      have hq := hv w hS
      unfold Oper.quietAt at hq
      unfold Oper.wp
      cases hx : (execOp a.eval o).run P w with
      | halt x w2 => rw [hx] at hq; exact hq.elim
      | ok n w2 =>
        rw [hx] at hq
        cases n <;> simp only [Oper.quietUpon] at hq
        case value u =>
          obtain ⟨rfl, rfl⟩ := hq
          exact ⟨hS, hn _ hS⟩
        case skip =>
          obtain ⟨rfl, rfl⟩ := hq
          exact ⟨hS, hn _ hS⟩
        case enter f args =>
          obtain ⟨rfl, hc⟩ := hq
          refine Calls.mono hc ?_
          rintro e w3 ⟨rfl, hC⟩
          exact ⟨hC, hn _ hC⟩
    · rw [if_neg hw] at h ⊢
      exact ⟨hS, h w hS⟩

def shutW (l0 : List Oper) (k : Nat) : Nat → Bool
  | 0 => true
  | m + 1 => shutB l0 k && shutW l0 (k + 1) m

/-- A stretch ahead of the cut. -/
theorem till_walk (hs : Region.noSelect l0.toArray = true) {c : Nat} : ∀ (m k : Nat) (a : Act) (w : World), shutW l0 k m = true → walkC l0 c k m = true → S w →
    wpQuiet P l0.toArray S (fun a' => ∀ w', S w' → wpTill P l0.toArray (NoPanic Q) S c (wpAny P .any l0.toArray (NoPanic Q)) (l0.length - (k + m)) (upTo l0.length (k + m)) a' w') ((l0.drop k).take m) a →
    wpTill P l0.toArray (NoPanic Q) S c (wpAny P .any l0.toArray (NoPanic Q)) (l0.length - k) (upTo l0.length k) a w
  | 0, k, a, w, _, _, hS, h => h w hS
  | m + 1, k, a, w, hH, hB, hS, h => by
    unfold walkC at hB
    unfold shutW at hH
    rw [Bool.and_eq_true] at hB hH
    have ⟨o, ho⟩ : ∃ o, l0[k]? = some o := by
      cases hx : l0[k]? with
      | none => have := hB.1; unfold stepC at this; rw [hx] at this; cases this
      | some o => exact ⟨o, rfl⟩
    have hd : l0.drop k = o :: l0.drop (k + 1) := by
      have hk := List.getElem?_eq_some_iff.1 ho
      rw [List.drop_eq_getElem_cons hk.1, hk.2]
    rw [hd, List.take_succ_cons] at h
    refine till_op hs ho hH.1 hB.1 hS ?_
    unfold wpQuiet at h
    have e : k + (m + 1) = k + 1 + m := by omega
    rw [e] at h
    split
    · rename_i hw
      rw [if_pos hw] at h
      exact Oper.quiet_mono (fun a' h' w' hw' => till_walk hs m (k + 1) a' w' hH.2 hB.2 hw' h') h
    · rename_i hw
      rw [if_neg hw] at h
      exact fun w' hw' => till_walk hs m (k + 1) _ w' hH.2 hB.2 hw' h

/-- The call at the cut: behind it another class, for what follows it. -/
theorem till_enter {c : Nat} {o : Oper} {f : FuncId} {args : Array Value} {a : Act} {w : World} (ho : l0[c]? = some o) (hr : (Region.ready .any l0.toArray (upTo l0.length c) == [c]) = true) (hw : Region.wanted o (yielded l0.toArray a.tmps) = true)
    (hrun : (execOp a.eval o).run P w = .ok (.enter f args) w) (h : Calls P f args w fun e w' => ∃ v, e = .returned v ∧ wpAny P .any l0.toArray (NoPanic Q) (l0.length - (c + 1)) (upTo l0.length (c + 1)) (a.put o.dst v) w') :
    wpTill P l0.toArray (NoPanic Q) S c (wpAny P .any l0.toArray (NoPanic Q)) (l0.length - c) (upTo l0.length c) a w := by
  have hk : c < l0.length := (List.getElem?_eq_some_iff.1 ho).1
  have e : l0.length - c = l0.length - (c + 1) + 1 := by omega
  have ho' : l0.toArray[c]? = some o := by simpa using ho
  have hr' : Region.ready .any l0.toArray (upTo l0.length c) = [c] := by simpa using hr
  rw [e]
  refine ⟨by rw [hr']; simp, fun i hi => ?_⟩
  rw [hr', List.mem_singleton] at hi
  subst hi
  rw [if_pos rfl]
  unfold wpOp
  rw [ho', upTo_next]
  dsimp only
  rw [if_pos hw]
  refine Or.inl ?_
  unfold Oper.wp
  rw [hrun]
  refine Calls.mono h ?_
  rintro e w3 ⟨v, rfl, hn⟩
  exact hn

/-- The frame, written out. -/
theorem any_frame {k : Nat} {a a' : Act} {w : World} (ha : a = a') (h : wpAny P .any l0.toArray (NoPanic Q) (l0.length - k) (upTo l0.length k) a' w) : wpAny P .any l0.toArray (NoPanic Q) (l0.length - k) (upTo l0.length k) a w := by
  subst ha
  exact h

/-- Behind a cut: the rest, under one class. -/
theorem any_stage (S : World → Prop) {k : Nat} {a : Act} {w : World} (h : wpAnyH P .any l0.toArray (NoPanic Q) S (l0.length - k) (upTo l0.length k) a w) : wpAny P .any l0.toArray (NoPanic Q) (l0.length - k) (upTo l0.length k) a w := wpAny_of_held _ _ _ _ h

/-- Behind a cut: up to the next one. -/
theorem any_till (S : World → Prop) (c : Nat) {k : Nat} {a : Act} {w : World} (h : wpTill P l0.toArray (NoPanic Q) S c (wpAny P .any l0.toArray (NoPanic Q)) (l0.length - k) (upTo l0.length k) a w) : wpAny P .any l0.toArray (NoPanic Q) (l0.length - k) (upTo l0.length k) a w := any_of_till _ _ _ _ h

/-- The region's beginning, with a cut at c. -/
theorem till_begin {id c : Nat} {a : Act} {w : World} (hm : P.follows .mixedOrders = true) (h : wpTill P l0.toArray (NoPanic Q) S c (wpAny P .any l0.toArray (NoPanic Q)) (l0.length - 0) (upTo l0.length 0) a w.drew) : (Code.region id l0.toArray true).wp P Q a w := by
  refine wp_region_noPanic (wp_region_any hm (any_of_till (S := S) (c := c) _ _ _ _ ?_))
  rw [upTo_zero] at h
  simpa using h
end
end Go.Proofs.YtkdipppeljpgmaaGreatDoor
