/- A region that reads a channel and a value, in whatever order, and then sends. -/
import Derived.Test.YtfmkgppkgmjpfaaDoorChanKit
namespace Go.Proofs.YtfmkgppkgmjpfaaDoor
open Go.RowKit Go.Conc

/-- What is done of the two chains. -/
def lst2 (i j : Nat) : Array Bool := #[decide (0 < i), decide (1 < i), decide (2 < i), decide (3 < i), decide (0 < j), decide (1 < j), false]

def rd2 (i j : Nat) : List Nat := (if i < 4 then [i] else []) ++ (if j < 2 then [4 + j] else []) ++ (if i = 4 ∧ j = 2 then [6] else [])

/-- The act so far: these values stand in the slots from s on. -/
structure Got2 (a : Act) (s : Nat) (vs : Nat → Value) (i j : Nat) (b : Act) : Prop where
  size : b.tmps.size = a.tmps.size
  old : ∀ t, t < s ∨ s + 6 ≤ t → b.tmps[t]? = a.tmps[t]?
  ga : ∀ k, k < i → b.tmps[s + k]? = some (vs k)
  gb : ∀ k, k < j → b.tmps[s + 4 + k]? = some (vs (4 + k))
  ua : ∀ k, i ≤ k → k < 4 → b.tmps[s + k]? = a.tmps[s + k]?
  ub : ∀ k, j ≤ k → k < 2 → b.tmps[s + 4 + k]? = a.tmps[s + 4 + k]?
  defers : b.defers = a.defers

theorem put_get {b : Act} {t u : Nat} {v : Value} (ht : t < b.tmps.size) : (b.put (some t) v).tmps[u]? = if u = t then some v else b.tmps[u]? := by
  unfold Act.put
  dsimp only
  rw [Array.getElem?_setIfInBounds]
  by_cases h : t = u
  · subst h
    simp [ht]
  · rw [if_neg h, if_neg (Ne.symm h)]

theorem Got2.nextA {a : Act} {s : Nat} {vs : Nat → Value} {i j : Nat} {b : Act} (h : Got2 a s vs i j b) (hs : s + 6 ≤ a.tmps.size) (hi : i < 4) : Got2 a s vs (i + 1) j (b.put (some (s + i)) (vs i)) := by
  have hg := fun u => put_get (b := b) (t := s + i) (u := u) (v := vs i) (by rw [h.size]; omega)
  refine ⟨by simp [Act.put, h.size], fun t ht => ?_, fun k hk => ?_, fun k hk => ?_, fun k h1 h2 => ?_, fun k h1 h2 => ?_, h.defers⟩
  · rw [hg, if_neg (by omega)]
    exact h.old t ht
  · rw [hg]
    by_cases e : k = i
    · rw [e, if_pos rfl]
    · rw [if_neg (by omega)]
      exact h.ga k (by omega)
  · rw [hg, if_neg (by omega)]
    by_cases e : k < 2
    · exact h.gb k hk
    · exact h.gb k hk
  · rw [hg, if_neg (by omega)]
    exact h.ua k (by omega) h2
  · rw [hg, if_neg (by omega)]
    exact h.ub k h1 h2

theorem Got2.nextB {a : Act} {s : Nat} {vs : Nat → Value} {i j : Nat} {b : Act} (h : Got2 a s vs i j b) (hs : s + 6 ≤ a.tmps.size) (hi : i ≤ 4) (hj : j < 2) : Got2 a s vs i (j + 1) (b.put (some (s + 4 + j)) (vs (4 + j))) := by
  have hg := fun u => put_get (b := b) (t := s + 4 + j) (u := u) (v := vs (4 + j)) (by rw [h.size]; omega)
  refine ⟨by simp [Act.put, h.size], fun t ht => ?_, fun k hk => ?_, fun k hk => ?_, fun k h1 h2 => ?_, fun k h1 h2 => ?_, h.defers⟩
  · rw [hg, if_neg (by omega)]
    exact h.old t ht
  · rw [hg, if_neg (by omega)]
    exact h.ga k hk
  · rw [hg]
    by_cases e : k = j
    · rw [e, if_pos rfl]
    · rw [if_neg (by omega)]
      exact h.gb k (by omega)
  · rw [hg, if_neg (by omega)]
    exact h.ua k h1 h2
  · rw [hg, if_neg (by omega)]
    exact h.ub k (by omega) h2

theorem Got2.all {a : Act} {s : Nat} {vs : Nat → Value} {b : Act} (h : Got2 a s vs 4 2 b) (hs : s + 6 ≤ a.tmps.size) :
    b = (((((a.put (some s) (vs 0)).put (some (s + 1)) (vs 1)).put (some (s + 2)) (vs 2)).put (some (s + 3)) (vs 3)).put (some (s + 4)) (vs 4)).put (some (s + 5)) (vs 5) := by
  have sz : ∀ (c : Act) t v, (c.put (some t) v).tmps.size = c.tmps.size := fun c t v => by simp [Act.put]
  have df : ∀ (c : Act) t v, (c.put (some t) v).defers = c.defers := fun c t v => rfl
  obtain ⟨a1, h1⟩ : ∃ x, a.put (some s) (vs 0) = x := ⟨_, rfl⟩
  have z1 : a1.tmps.size = a.tmps.size := by rw [← h1, sz]
  have d1 : a1.defers = a.defers := by rw [← h1, df]
  have g1 : ∀ u, a1.tmps[u]? = if u = s then some (vs 0) else a.tmps[u]? := fun u => by rw [← h1]; exact put_get (by omega)
  rw [h1]
  clear h1
  obtain ⟨a2, h2⟩ : ∃ x, a1.put (some (s + 1)) (vs 1) = x := ⟨_, rfl⟩
  have z2 : a2.tmps.size = a.tmps.size := by rw [← h2, sz]; exact z1
  have d2 : a2.defers = a.defers := by rw [← h2, df]; exact d1
  have g2 : ∀ u, a2.tmps[u]? = if u = (s + 1) then some (vs 1) else a1.tmps[u]? := fun u => by rw [← h2]; exact put_get (by rw [z1]; omega)
  rw [h2]
  clear h2
  obtain ⟨a3, h3⟩ : ∃ x, a2.put (some (s + 2)) (vs 2) = x := ⟨_, rfl⟩
  have z3 : a3.tmps.size = a.tmps.size := by rw [← h3, sz]; exact z2
  have d3 : a3.defers = a.defers := by rw [← h3, df]; exact d2
  have g3 : ∀ u, a3.tmps[u]? = if u = (s + 2) then some (vs 2) else a2.tmps[u]? := fun u => by rw [← h3]; exact put_get (by rw [z2]; omega)
  rw [h3]
  clear h3
  obtain ⟨a4, h4⟩ : ∃ x, a3.put (some (s + 3)) (vs 3) = x := ⟨_, rfl⟩
  have z4 : a4.tmps.size = a.tmps.size := by rw [← h4, sz]; exact z3
  have d4 : a4.defers = a.defers := by rw [← h4, df]; exact d3
  have g4 : ∀ u, a4.tmps[u]? = if u = (s + 3) then some (vs 3) else a3.tmps[u]? := fun u => by rw [← h4]; exact put_get (by rw [z3]; omega)
  rw [h4]
  clear h4
  obtain ⟨a5, h5⟩ : ∃ x, a4.put (some (s + 4)) (vs 4) = x := ⟨_, rfl⟩
  have z5 : a5.tmps.size = a.tmps.size := by rw [← h5, sz]; exact z4
  have d5 : a5.defers = a.defers := by rw [← h5, df]; exact d4
  have g5 : ∀ u, a5.tmps[u]? = if u = (s + 4) then some (vs 4) else a4.tmps[u]? := fun u => by rw [← h5]; exact put_get (by rw [z4]; omega)
  rw [h5]
  clear h5
  obtain ⟨a6, h6⟩ : ∃ x, a5.put (some (s + 5)) (vs 5) = x := ⟨_, rfl⟩
  have z6 : a6.tmps.size = a.tmps.size := by rw [← h6, sz]; exact z5
  have d6 : a6.defers = a.defers := by rw [← h6, df]; exact d5
  have g6 : ∀ u, a6.tmps[u]? = if u = (s + 5) then some (vs 5) else a5.tmps[u]? := fun u => by rw [← h6]; exact put_get (by rw [z5]; omega)
  rw [h6]
  clear h6
  obtain ⟨bt, bd⟩ := b
  obtain ⟨t6, e6⟩ := a6
  have hd := h.defers
  dsimp only at hd d6
  have e : bt = t6 := by
    apply Array.ext_getElem?
    intro u
    have gu := g6 u
    dsimp only at gu
    rw [gu, g5, g4, g3, g2, g1]
    by_cases u5 : u = s + 5
    · rw [if_pos u5, u5]
      exact h.gb 1 (by omega)
    rw [if_neg u5]
    by_cases u4 : u = s + 4
    · rw [if_pos u4, u4]
      exact h.gb 0 (by omega)
    rw [if_neg u4]
    by_cases u3 : u = s + 3
    · rw [if_pos u3, u3]
      exact h.ga 3 (by omega)
    rw [if_neg u3]
    by_cases u2 : u = s + 2
    · rw [if_pos u2, u2]
      exact h.ga 2 (by omega)
    rw [if_neg u2]
    by_cases u1 : u = s + 1
    · rw [if_pos u1, u1]
      exact h.ga 1 (by omega)
    rw [if_neg u1]
    by_cases u0 : u = s
    · rw [if_pos u0, u0]
      exact h.ga 0 (by omega)
    rw [if_neg u0]
    exact h.old u (by omega)
  rw [e, hd, d6]

/-- What is asked of the operations: each yields its value, whatever the act, where its operands are there. -/
structure Sends (P : Program) (ops : Array Oper) (a : Act) (s : Nat) (vs : Nat → Value) (c : Nat) (z : Value) (x : Value) (w : World) : Prop where
  size : ops.size = 7
  room : s + 6 ≤ a.tmps.size
  rdyB : ((List.range 5).all fun i => (List.range 3).all fun j => Region.ready .any ops (lst2 i j) == rd2 i j) = true
  dst : ∀ k, k < 6 → (ops[k]?).map (fun o => (o.dst, o.guard)) = some (some (s + k), none)
  dst6 : (ops[6]?).map (fun o => (o.dst, o.guard)) = some (none, none)
  runA : ∀ i, i < 4 → ∀ b j, Got2 a s vs i j b → ∀ o, ops[i]? = some o → (execOp b.eval o).run P w = .ok (.value (vs i)) w
  runB : ∀ j, j < 2 → ∀ b i, Got2 a s vs i j b → ∀ o, ops[4 + j]? = some o → (execOp b.eval o).run P w = .ok (.value (vs (4 + j))) w
  run6 : ∀ b, Got2 a s vs 4 2 b → ∀ o, ops[6]? = some o → (execOp b.eval o).run P w = .ok (.comm #[scase c x z] true .send) w

theorem Sends.rdy {P : Program} {ops : Array Oper} {a : Act} {s : Nat} {vs : Nat → Value} {c : Nat} {z x : Value} {w : World} (h : Sends P ops a s vs c z x w) (i : Nat) (hi : i ≤ 4) (j : Nat) (hj : j ≤ 2) : Region.ready .any ops (lst2 i j) = rd2 i j := by
  have h1 := List.all_eq_true.1 h.rdyB i (List.mem_range.2 (by omega))
  have h2 := List.all_eq_true.1 h1 j (List.mem_range.2 (by omega))
  simpa using h2

theorem setA2 : ∀ i, i < 4 → ∀ j, j ≤ 2 → (lst2 i j).setIfInBounds i true = lst2 (i + 1) j := fun i hi j hj => by
  have hi' : i = 0 ∨ i = 1 ∨ i = 2 ∨ i = 3 := by omega
  have hj' : j = 0 ∨ j = 1 ∨ j = 2 := by omega
  rcases hi' with rfl | rfl | rfl | rfl <;> rcases hj' with rfl | rfl | rfl <;> decide

theorem setB2 : ∀ i, i ≤ 4 → ∀ j, j < 2 → (lst2 i j).setIfInBounds (4 + j) true = lst2 i (j + 1) := fun i hi j hj => by
  have hi' : i = 0 ∨ i = 1 ∨ i = 2 ∨ i = 3 ∨ i = 4 := by omega
  have hj' : j = 0 ∨ j = 1 := by omega
  rcases hi' with rfl | rfl | rfl | rfl | rfl <;> rcases hj' with rfl | rfl <;> decide

theorem wanted_none {ops : Array Oper} {o : Oper} {ts : Array Value} (h : o.guard = none) : Region.wanted o (yielded ops ts) = true := by
  unfold Region.wanted
  rw [h]

theorem anyN_sends {P : Program} {ops : Array Oper} {a : Act} {s : Nat} {vs : Nat → Value} {c cap s0 r0 : Nat} {z x : Value} {w : World} {buf : Array Value} {Q : Exit → Act → World → Prop} (h : Sends P ops a s vs c z x w) (hc : w.heap[c]? = some (.chan cap buf false s0 r0 false)) (hroom : buf.size < cap)
    (hQ : Q .normal ((((((a.put (some s) (vs 0)).put (some (s + 1)) (vs 1)).put (some (s + 2)) (vs 2)).put (some (s + 3)) (vs 3)).put (some (s + 4)) (vs 4)).put (some (s + 5)) (vs 5)) (w.setChan c cap (buf.push x) false (s0 + 1) r0 false)) :
    ∀ n i j b, i ≤ 4 → j ≤ 2 → n + i + j = 6 → Got2 a s vs i j b → AnyN P ops Q (n + 1) (lst2 i j) b w := by
  intro n
  induction n with
  | zero =>
    intro i j b hi hj hn hg
    obtain rfl : i = 4 := by omega
    obtain rfl : j = 2 := by omega
    refine anyN_next (h.rdy 4 (by omega) 2 (by omega)) (by decide) (fun k hk t => ?_)
    have e : k = 6 := by simpa [rd2] using hk
    subst e
    have h6 := h.dst6
    cases ho : ops[6]? with
    | none => rw [ho] at h6; cases h6
    | some o =>
      rw [ho] at h6
      have h6' := Option.some.inj h6
      dsimp only at h6'
      have e1 : o.dst = none := congrArg Prod.fst h6'
      have e2 : o.guard = none := congrArg Prod.snd h6'
      refine inR_send ho (wanted_none e2) (h.run6 b hg o ho) hc hroom ?_
      have e3 : Region.linearise.go .any ops 0 t ((lst2 4 2).setIfInBounds 6 true) [] = [] := by simp [Region.linearise.go]
      rw [e3, e1]
      refine inR_of ?_
      have e4 := hg.all h.room
      subst e4
      simpa [wpOps, Act.put] using hQ
  | succ n ih =>
    intro i j b hi hj hn hg
    refine anyN_next (h.rdy i hi j hj) (by
      unfold rd2
      by_cases h4 : i < 4
      · rw [if_pos h4]; simp
      · rw [if_neg h4, if_pos (by omega)]; simp) (fun k hk => ?_)
    have hk2 : (i < 4 ∧ k = i) ∨ (j < 2 ∧ k = 4 + j) := by
      unfold rd2 at hk
      simp only [List.mem_append] at hk
      rcases hk with (hk | hk) | hk
      · split at hk
        · exact Or.inl ⟨by assumption, by simpa using hk⟩
        · cases hk
      · split at hk
        · exact Or.inr ⟨by assumption, by simpa using hk⟩
        · cases hk
      · rw [if_neg (by omega)] at hk
        cases hk
    intro t
    rcases hk2 with ⟨h4, rfl⟩ | ⟨h2, rfl⟩
    · have hd := h.dst k (by omega)
      cases ho : ops[k]? with
      | none => rw [ho] at hd; cases hd
      | some o =>
        rw [ho] at hd
        have hd' := Option.some.inj hd
        dsimp only at hd'
        have e1 : o.dst = some (s + k) := congrArg Prod.fst hd'
        have e2 : o.guard = none := congrArg Prod.snd hd'
        refine inR_value ho (wanted_none e2) (h.runA k h4 b j hg o ho) ?_
        rw [setA2 k h4 j hj, e1]
        exact ih (k + 1) j _ (by omega) hj (by omega) (hg.nextA h.room h4) t
    · have hd := h.dst (4 + j) (by omega)
      cases ho : ops[4 + j]? with
      | none => rw [ho] at hd; cases hd
      | some o =>
        rw [ho] at hd
        have hd' := Option.some.inj hd
        dsimp only at hd'
        have e1 : o.dst = some (s + (4 + j)) := congrArg Prod.fst hd'
        have e2 : o.guard = none := congrArg Prod.snd hd'
        refine inR_value ho (wanted_none e2) (h.runB j h2 b i hg o ho) ?_
        rw [setB2 i hi j h2, e1, show s + (4 + j) = s + 4 + j by omega]
        exact ih i (j + 1) _ hi (by omega) (by omega) (hg.nextB h.room hi h2) t
end Go.Proofs.YtfmkgppkgmjpfaaDoor
