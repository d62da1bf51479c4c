/- Which places of code are come to, and how: whatever the order in which they are gone through. -/
import Derived.Test.YtfmkgppkgmjpfaaDoorCodePure
namespace Go.Proofs.YtfmkgppkgmjpfaaDoor
open Go.RowKit

/-- How a place is come to: so many names and values, and of which part (0: not at all; 1: the whole; 2: a function; 3: a body). -/
structure Sq where
  n : Int
  v : Int
  p : Int

instance : Inhabited Sq := ⟨⟨0, 0, 0⟩⟩

instance : DecidableEq Sq := fun a b =>
  if h : a.n = b.n ∧ a.v = b.v ∧ a.p = b.p then isTrue (by cases a; cases b; obtain ⟨h1, h2, h3⟩ := h; dsimp only at h1 h2 h3; subst h1 h2 h3; rfl)
  else isFalse (fun e => h (by subst e; exact ⟨rfl, rfl, rfl⟩))

/-- What is noted of a place. -/
def tg (T : List Sq) (k : Nat) : Sq := T.getD k default

theorem tg_set {T : List Sq} {k : Nat} (hk : k < T.length) (s : Sq) (j : Nat) : tg (T.set k s) j = if j = k then s else tg T j := by
  unfold tg
  simp only [List.getD_eq_getElem?_getD, List.getElem?_set]
  by_cases h : k = j
  · subst h
    simp [hk]
  · have h' : ¬ j = k := fun e => h e.symm
    simp [h, h']

theorem tg_out {T : List Sq} {k : Nat} (hk : ¬ k < T.length) : tg T k = ⟨0, 0, 0⟩ := by
  unfold tg
  rw [List.getD_eq_getElem?_getD, List.getElem?_eq_none (by omega)]
  rfl

/-- How many places are not come to yet. -/
def free (T : List Sq) : Nat := T.countP (fun s => decide (s.p = 0))

theorem free_le (T : List Sq) : free T ≤ T.length := List.countP_le_length

theorem free_set : ∀ (T : List Sq) (k : Nat), k < T.length → (tg T k).p = 0 → ∀ s : Sq, s.p ≠ 0 → free (T.set k s) + 1 = free T
  | [], _, h, _, _, _ => absurd h (by simp)
  | x :: r, 0, _, h0, s, hs => by
    have h0' : x.p = 0 := h0
    simp [free, hs, h0']
  | x :: r, k + 1, h, h0, s, hs => by
    have ih := free_set r k (by simpa using h) (by simpa [tg] using h0) s hs
    simp only [free, List.set_cons_succ, List.countP_cons] at ih ⊢
    omega

/-- The lines of a table behind its first. -/
def clausesZ (cs : List In) (a : Int) : List In := (cs.drop (a.toNat + 1)).take (cs.getD a.toNat default).b.toNat

def tableZ (cs : List In) (a : Int) : Bool :=
  decide (a < (cs.length : Int)) && (decide ((cs.getD a.toNat default).op = 24) && (decide ((cs.getD a.toNat default).b ≤ 4) && (decide ((cs.getD a.toNat default).b < (cs.length : Int) - a) && (clausesZ cs a).all (fun i => decide (i.op = 25)))))

/-- Does an instruction have what it needs? -/
def needsZ (cs : List In) (i : In) (s : Sq) : Bool :=
  if i.op = 5 then decide (i.a < s.n)
  else if i.op = 8 ∨ i.op = 14 ∨ i.op = 15 ∨ i.op = 18 then decide (2 ≤ s.v)
  else if i.op = 10 ∨ i.op = 12 ∨ i.op = 16 ∨ i.op = 17 ∨ i.op = 19 ∨ i.op = 20 ∨ i.op = 22 then decide (1 ≤ s.v)
  else if i.op = 13 then decide (1 ≤ s.n)
  else if i.op = 21 then tableZ cs i.a
  else if i.op = 0 then decide (s.v = 1 ∧ s.p = 1)
  else if i.op = 9 then decide (s.v = 1 ∧ s.p = 2)
  else if i.op = 23 then decide (s.v = 1 ∧ s.p = 3)
  else if i.op = 24 ∨ i.op = 25 then false
  else true

def Sq.more (s : Sq) (n v : Int) : Sq := ⟨s.n + n, s.v + v, s.p⟩

def handleZ (cs : List In) (k : Nat) (i : In) (s : Sq) : List (Int × Sq) :=
  ((cs.getD i.a.toNat default).a, ⟨s.n + 1, 0, 2⟩) :: (clausesZ cs i.a).map (fun c => (c.b, (⟨s.n + 2, 0, 2⟩ : Sq))) ++ [((k : Int) + 1, ⟨s.n, 0, 3⟩), (i.c, s.more 0 1)]

/-- What an instruction comes to. -/
def exitsZ (cs : List In) (k : Nat) (i : In) (s : Sq) : List (Int × Sq) :=
  if i.op = 1 ∨ i.op = 2 ∨ i.op = 3 ∨ i.op = 4 ∨ i.op = 5 then [((k : Int) + 1, s.more 0 1)]
  else if i.op = 6 then [(i.a, ⟨s.n + 1, 0, 2⟩), ((k : Int) + 1, s.more 0 1)]
  else if i.op = 7 then [(i.a, ⟨s.n + 2, 0, 2⟩), ((k : Int) + 1, s.more 0 1)]
  else if i.op = 8 ∨ i.op = 14 ∨ i.op = 15 ∨ i.op = 18 then [((k : Int) + 1, s.more 0 (-1))]
  else if i.op = 10 then [(i.a, s.more 0 (-1)), ((k : Int) + 1, s.more 0 (-1))]
  else if i.op = 11 then [(i.a, s)]
  else if i.op = 12 then [((k : Int) + 1, s.more 1 (-1))]
  else if i.op = 13 then [((k : Int) + 1, s.more (-1) 0)]
  else if i.op = 16 ∨ i.op = 17 ∨ i.op = 20 ∨ i.op = 22 then [((k : Int) + 1, s)]
  else if i.op = 19 then [(i.a, s.more 0 (-1)), ((k : Int) + 1, s.more 2 (-1))]
  else if i.op = 21 then handleZ cs k i s
  else []

/-- Which places are come to, and how. -/
inductive Reach (cs : List In) : Nat → Sq → Prop
  | start : Reach cs 0 ⟨0, 0, 1⟩
  | step {k : Nat} {s : Sq} {e : Int × Sq} : Reach cs k s → k < cs.length → needsZ cs (cs.getD k default) s = true → e ∈ exitsZ cs k (cs.getD k default) s → Reach cs e.1.toNat e.2

/-- Nothing is wrong with whatever is come to. -/
def Good (cs : List In) : Prop := ∀ k s, Reach cs k s → k < cs.length ∧ s.n ≤ 100 ∧ s.v ≤ 100 ∧ needsZ cs (cs.getD k default) s = true ∧ ∀ s', Reach cs k s' → s' = s

/-- A place that is come to is noted; nothing where something is wrong. -/
def comeZ (N : Nat) (T : List Sq) (w : List Nat) (e : Int × Sq) : Option (List Sq × List Nat) :=
  if e.1 < 0 ∨ (N : Int) ≤ e.1 ∨ e.2.n < 0 ∨ e.2.v < 0 ∨ 100 < e.2.n ∨ 100 < e.2.v then none
  else if tg T e.1.toNat = e.2 then some (T, w)
  else if (tg T e.1.toNat).p ≠ 0 then none
  else some (T.set e.1.toNat e.2, w ++ [e.1.toNat])

def comesZ (N : Nat) : List Sq → List Nat → List (Int × Sq) → Option (List Sq × List Nat)
  | T, w, [] => some (T, w)
  | T, w, e :: r => match comeZ N T w e with
    | none => none
    | some (T', w') => comesZ N T' w' r

/-- What a table of places may hold. -/
def SaneS (s : Sq) : Prop := (s.p = 0 ∧ s.n = 0 ∧ s.v = 0) ∨ (1 ≤ s.p ∧ s.p ≤ 3 ∧ 0 ≤ s.n ∧ s.n ≤ 100 ∧ 0 ≤ s.v ∧ s.v ≤ 100)

theorem sane_zero {s : Sq} (h : SaneS s) (h0 : s.p = 0) : s = ⟨0, 0, 0⟩ := by
  cases s with
  | mk n v p =>
    rcases h with ⟨a, b, c⟩ | hs
    · dsimp only at a b c
      rw [a, b, c]
    · dsimp only at h0 hs
      omega

/-- The table so far. -/
structure Tab (cs : List In) (T : List Sq) (w : List Nat) : Prop where
  len : T.length = cs.length
  rch : ∀ k, (tg T k).p ≠ 0 → Reach cs k (tg T k)
  sane : ∀ s ∈ T, SaneS s
  work : ∀ k ∈ w, k < cs.length ∧ (tg T k).p ≠ 0
  room : w.length + free T ≤ cs.length

def Grows (T T' : List Sq) : Prop := ∀ k, (tg T k).p ≠ 0 → tg T' k = tg T k

theorem Grows.refl (T : List Sq) : Grows T T := fun _ _ => rfl
theorem Grows.trans {T T' T'' : List Sq} (h : Grows T T') (h' : Grows T' T'') : Grows T T'' := fun k hk => by
  have e := h k hk
  rw [h' k (by rw [e]; exact hk), e]

theorem come_bad {cs : List In} {T : List Sq} {w : List Nat} {e : Int × Sq} (hT : Tab cs T w) (hr : Reach cs e.1.toNat e.2) (h0 : 0 ≤ e.1) (hn : 0 ≤ e.2.n) (hv : 0 ≤ e.2.v) (h : comeZ cs.length T w e = none) : ¬ Good cs := fun hg => by
  obtain ⟨g1, g2, g3, -, g5⟩ := hg _ _ hr
  unfold comeZ at h
  rw [if_neg (by omega)] at h
  by_cases h1 : tg T e.1.toNat = e.2
  · rw [if_pos h1] at h
    cases h
  · rw [if_neg h1] at h
    by_cases h2 : (tg T e.1.toNat).p ≠ 0
    · exact h1 (g5 _ (hT.rch _ h2))
    · rw [if_neg h2] at h
      cases h

/-- What a step of noting does. -/
structure Noted (cs : List In) (T : List Sq) (w : List Nat) (es : List (Int × Sq)) (T' : List Sq) (w' : List Nat) : Prop where
  tab : Tab cs T' w'
  grows : Grows T T'
  told : ∀ e ∈ es, tg T' e.1.toNat = e.2 ∧ 0 ≤ e.1 ∧ e.1.toNat < cs.length
  news : ∀ k, (tg T' k).p ≠ 0 → (tg T k).p ≠ 0 ∨ k ∈ w'
  olds : ∀ k ∈ w, k ∈ w'
  less : 2 * free T' + w'.length ≤ 2 * free T + w.length

theorem come_some {cs : List In} {T : List Sq} {w : List Nat} {e : Int × Sq} {T' : List Sq} {w' : List Nat} (hT : Tab cs T w) (hr : Reach cs e.1.toNat e.2) (hp : 1 ≤ e.2.p ∧ e.2.p ≤ 3) (h : comeZ cs.length T w e = some (T', w')) : Noted cs T w [e] T' w' := by
  unfold comeZ at h
  by_cases h0 : e.1 < 0 ∨ (cs.length : Int) ≤ e.1 ∨ e.2.n < 0 ∨ e.2.v < 0 ∨ 100 < e.2.n ∨ 100 < e.2.v
  · rw [if_pos h0] at h
    cases h
  rw [if_neg h0] at h
  by_cases h1 : tg T e.1.toNat = e.2
  · rw [if_pos h1] at h
    cases h
    exact ⟨hT, Grows.refl _, fun e' he' => by rw [List.mem_singleton] at he'; subst he'; exact ⟨h1, by omega, by omega⟩, fun k hk => Or.inl hk, fun k hk => hk, Nat.le_refl _⟩
  rw [if_neg h1] at h
  by_cases h2 : (tg T e.1.toNat).p ≠ 0
  · rw [if_pos h2] at h
    cases h
  rw [if_neg h2] at h
  cases h
  have h3 : (tg T e.1.toNat).p = 0 := Classical.byContradiction h2
  have hk : e.1.toNat < T.length := by rw [hT.len]; omega
  have hf := free_set T e.1.toNat hk h3 e.2 (by omega)
  have hts := tg_set hk e.2
  refine ⟨⟨by rw [List.length_set]; exact hT.len, fun k hk' => ?_, fun s hs => ?_, fun k hk' => ?_, ?_⟩, fun k hk' => ?_, fun e' he' => ?_, fun k hk' => ?_, fun k hk' => List.mem_append_left _ hk', ?_⟩
  · rw [hts] at hk' ⊢
    split
    · rename_i e1
      subst e1
      exact hr
    · rename_i e1
      rw [if_neg e1] at hk'
      exact hT.rch k hk'
  · rcases List.mem_or_eq_of_mem_set hs with h4 | rfl
    · exact hT.sane s h4
    · exact Or.inr ⟨by omega, by omega, by omega, by omega, by omega, by omega⟩
  · rw [List.mem_append, List.mem_singleton] at hk'
    rw [hts]
    rcases hk' with h4 | rfl
    · obtain ⟨h5, h6⟩ := hT.work k h4
      refine ⟨h5, ?_⟩
      split
      · omega
      · exact h6
    · rw [if_pos rfl]
      exact ⟨by omega, by omega⟩
  · have := hT.room
    rw [List.length_append, List.length_singleton]
    omega
  · rw [hts, if_neg (fun e1 => by subst e1; exact hk' h3)]
  · rw [List.mem_singleton] at he'
    subst he'
    rw [hts, if_pos rfl]
    exact ⟨rfl, by omega, by omega⟩
  · rw [hts] at hk'
    by_cases e1 : k = e.1.toNat
    · exact Or.inr (List.mem_append_right _ (List.mem_singleton.2 e1))
    · rw [if_neg e1] at hk'
      exact Or.inl hk'
  · rw [List.length_append, List.length_singleton]
    omega

theorem comes_some {cs : List In} : ∀ {es : List (Int × Sq)} {T : List Sq} {w : List Nat} {T' : List Sq} {w' : List Nat}, Tab cs T w → (∀ e ∈ es, Reach cs e.1.toNat e.2 ∧ 1 ≤ e.2.p ∧ e.2.p ≤ 3) → comesZ cs.length T w es = some (T', w') → Noted cs T w es T' w'
  | [], T, w, T', w', hT, _, h => by
    simp only [comesZ] at h
    cases h
    exact ⟨hT, Grows.refl _, fun e he => absurd he (by simp), fun k hk => Or.inl hk, fun k hk => hk, Nat.le_refl _⟩
  | e :: r, T, w, T', w', hT, he, h => by
    simp only [comesZ] at h
    cases hc : comeZ cs.length T w e with
    | none =>
      rw [hc] at h
      cases h
    | some x =>
      obtain ⟨T1, w1⟩ := x
      rw [hc] at h
      have h1 := come_some hT (he e (List.mem_cons_self ..)).1 (he e (List.mem_cons_self ..)).2 hc
      have h2 := comes_some h1.tab (fun e' he' => he e' (List.mem_cons_of_mem _ he')) h
      refine ⟨h2.tab, h1.grows.trans h2.grows, fun e' he' => ?_, fun k hk => ?_, fun k hk => h2.olds k (h1.olds k hk), Nat.le_trans h2.less h1.less⟩
      · rcases List.mem_cons.1 he' with rfl | h3
        · have h4 := h1.told e' (List.mem_singleton.2 rfl)
          have h5 := (he e' (List.mem_cons_self ..)).2
          refine ⟨?_, h4.2⟩
          rw [h2.grows _ (by rw [h4.1]; omega), h4.1]
        · exact h2.told e' h3
      · rcases h2.news k hk with h3 | h3
        · rcases h1.news k h3 with h4 | h4
          · exact Or.inl h4
          · exact Or.inr (h2.olds k h4)
        · exact Or.inr h3

theorem comes_bad {cs : List In} : ∀ {es : List (Int × Sq)} {T : List Sq} {w : List Nat}, Tab cs T w → (∀ e ∈ es, Reach cs e.1.toNat e.2 ∧ 1 ≤ e.2.p ∧ e.2.p ≤ 3 ∧ 0 ≤ e.1 ∧ 0 ≤ e.2.n ∧ 0 ≤ e.2.v) → comesZ cs.length T w es = none → ¬ Good cs
  | [], T, w, _, _, h => by
    simp only [comesZ] at h
    cases h
  | e :: r, T, w, hT, he, h => by
    simp only [comesZ] at h
    obtain ⟨h1, h2, h3, h4, h5, h6⟩ := he e (List.mem_cons_self ..)
    cases hc : comeZ cs.length T w e with
    | none => exact come_bad hT h1 h4 h5 h6 hc
    | some x =>
      obtain ⟨T1, w1⟩ := x
      rw [hc] at h
      exact comes_bad (come_some hT h1 ⟨h2, h3⟩ hc).tab (fun e' he' => he e' (List.mem_cons_of_mem _ he')) h

/-- A place that was gone through. -/
def Done (cs : List In) (T : List Sq) (k : Nat) : Prop := needsZ cs (cs.getD k default) (tg T k) = true ∧ ∀ e ∈ exitsZ cs k (cs.getD k default) (tg T k), tg T e.1.toNat = e.2 ∧ e.1.toNat < cs.length

/-- What an instruction's numbers are where they are places. -/
theorem ok_nums {i : In} (h : i.ok = true) (h1 : i.op ≠ 1) (h14 : i.op ≠ 14) (h2 : i.op ≠ 2) : 0 ≤ i.a ∧ i.a ≤ 65535 ∧ 0 ≤ i.b ∧ i.b ≤ 65535 ∧ 0 ≤ i.c ∧ i.c ≤ 65535 := by
  unfold In.ok insOkZ at h
  split at h
  · cases h
  · split at h
    · cases h
    · exact of_decide_eq_true h

theorem all_ok {cs : List In} (h : ∀ i ∈ cs, i.ok = true) {k : Nat} (hk : k < cs.length) : (cs.getD k default).ok = true := by
  rw [List.getD_eq_getElem?_getD, List.getElem?_eq_getElem hk]
  exact h _ (List.getElem_mem hk)

theorem clauses_mem {cs : List In} {a : Int} {i : In} (h : i ∈ clausesZ cs a) : i ∈ cs := List.mem_of_mem_drop (List.mem_of_mem_take h)

theorem table_parts {cs : List In} {a : Int} (h : tableZ cs a = true) : a < (cs.length : Int) ∧ (cs.getD a.toNat default).op = 24 ∧ (cs.getD a.toNat default).b ≤ 4 ∧ (cs.getD a.toNat default).b < (cs.length : Int) - a ∧ ∀ i ∈ clausesZ cs a, i.op = 25 := by
  unfold tableZ at h
  simp only [Bool.and_eq_true, decide_eq_true_eq, List.all_eq_true] at h
  exact ⟨h.1, h.2.1, h.2.2.1, h.2.2.2.1, h.2.2.2.2⟩

set_option maxHeartbeats 4000000 in
/-- What is come to from a place is told as it may be. -/
theorem exits_right {cs : List In} (hok : ∀ i ∈ cs, i.ok = true) {k : Nat} {s : Sq} (hk : k < cs.length) (hn0 : 0 ≤ s.n) (hv0 : 0 ≤ s.v) (hp : 1 ≤ s.p ∧ s.p ≤ 3) (hneed : needsZ cs (cs.getD k default) s = true) : ∀ e ∈ exitsZ cs k (cs.getD k default) s, 1 ≤ e.2.p ∧ e.2.p ≤ 3 ∧ 0 ≤ e.1 ∧ 0 ≤ e.2.n ∧ 0 ≤ e.2.v := by
  have hi := all_ok hok hk
  generalize hie : cs.getD k default = i at hi hneed
  intro e he
  unfold exitsZ at he
  unfold needsZ at hneed
  split at he
  · rw [List.mem_singleton] at he
    subst he
    simp only [Sq.more]
    omega
  rename_i n1
  have hnum : 0 ≤ i.a ∧ 0 ≤ i.c ∨ i.op = 14 := by
    by_cases h14 : i.op = 14
    · exact Or.inr h14
    · have := ok_nums hi (by omega) h14 (by omega)
      exact Or.inl ⟨by omega, by omega⟩
  split at he
  · rcases List.mem_cons.1 he with rfl | he
    · dsimp only; omega
    · rw [List.mem_singleton] at he
      subst he
      simp only [Sq.more]
      omega
  split at he
  · rcases List.mem_cons.1 he with rfl | he
    · dsimp only; omega
    · rw [List.mem_singleton] at he
      subst he
      simp only [Sq.more]
      omega
  split at he
  · rename_i hop
    rw [if_neg (by omega), if_pos hop] at hneed
    have := of_decide_eq_true hneed
    rw [List.mem_singleton] at he
    subst he
    simp only [Sq.more]
    omega
  rename_i n4
  split at he
  · rename_i hop
    rw [if_neg (by omega), if_neg n4, if_pos (by omega)] at hneed
    have := of_decide_eq_true hneed
    rcases List.mem_cons.1 he with rfl | he
    · simp only [Sq.more]; omega
    · rw [List.mem_singleton] at he
      subst he
      simp only [Sq.more]
      omega
  split at he
  · rw [List.mem_singleton] at he
    subst he
    dsimp only
    omega
  split at he
  · rename_i hop
    rw [if_neg (by omega), if_neg n4, if_pos (by omega)] at hneed
    have := of_decide_eq_true hneed
    rw [List.mem_singleton] at he
    subst he
    simp only [Sq.more]
    omega
  split at he
  · rename_i hop
    rw [if_neg (by omega), if_neg n4, if_neg (by omega), if_pos hop] at hneed
    have := of_decide_eq_true hneed
    rw [List.mem_singleton] at he
    subst he
    simp only [Sq.more]
    omega
  split at he
  · rw [List.mem_singleton] at he
    subst he
    dsimp only
    omega
  split at he
  · rename_i hop
    rw [if_neg (by omega), if_neg n4, if_pos (by omega)] at hneed
    have := of_decide_eq_true hneed
    rcases List.mem_cons.1 he with rfl | he
    · simp only [Sq.more]; omega
    · rw [List.mem_singleton] at he
      subst he
      simp only [Sq.more]
      omega
  split at he
  · rename_i hop
    rw [if_neg (by omega), if_neg n4, if_neg (by omega), if_neg (by omega), if_pos hop] at hneed
    obtain ⟨t1, t2, t3, t4, t5⟩ := table_parts hneed
    have h0 : i.a.toNat < cs.length := by omega
    have ht := ok_nums (all_ok hok h0) (by omega) (by omega) (by omega)
    unfold handleZ at he
    rw [List.mem_append, List.mem_cons, List.mem_map] at he
    rcases he with (rfl | ⟨c, hc, rfl⟩) | he
    · dsimp only; omega
    · have h25 := t5 c hc
      have hcn := ok_nums (hok c (clauses_mem hc)) (by omega) (by omega) (by omega)
      dsimp only
      omega
    · rcases List.mem_cons.1 he with rfl | he
      · dsimp only; omega
      · rw [List.mem_singleton] at he
        subst he
        simp only [Sq.more]
        omega
  · cases he

theorem reach_right {cs : List In} (hok : ∀ i ∈ cs, i.ok = true) {k : Nat} {s : Sq} (h : Reach cs k s) : 0 ≤ s.n ∧ 0 ≤ s.v ∧ 1 ≤ s.p ∧ s.p ≤ 3 := by
  induction h with
  | start => exact ⟨by decide, by decide, by decide, by decide⟩
  | step hr hk hneed he ih =>
    obtain ⟨h1, h2, h3, h4, h5⟩ := exits_right hok hk ih.1 ih.2.1 ih.2.2 hneed _ he
    exact ⟨h4, h5, h1, h2⟩

/-- Where all that was noted is gone through, it is all that is come to. -/
theorem all_done {cs : List In} (hok : ∀ i ∈ cs, i.ok = true) {T : List Sq} (h0 : 0 < cs.length) (h1 : tg T 0 = ⟨0, 0, 1⟩) (hd : ∀ k, (tg T k).p ≠ 0 → Done cs T k) : ∀ k s, Reach cs k s → tg T k = s ∧ k < cs.length := by
  intro k s h
  induction h with
  | start => exact ⟨h1, h0⟩
  | step hr hk hneed he ih =>
    have hp := reach_right hok hr
    have hd' := hd _ (by rw [ih.1]; omega)
    unfold Done at hd'
    rw [ih.1] at hd'
    exact hd'.2 _ he

theorem good_of_done {cs : List In} (hok : ∀ i ∈ cs, i.ok = true) {T : List Sq} {w : List Nat} (hT : Tab cs T w) (h0 : 0 < cs.length) (h1 : tg T 0 = ⟨0, 0, 1⟩) (hd : ∀ k, (tg T k).p ≠ 0 → Done cs T k) : Good cs := fun k s h => by
  obtain ⟨e, hk⟩ := all_done hok h0 h1 hd k s h
  have hp := reach_right hok h
  have hs : SaneS (tg T k) := hT.sane _ (by
    unfold tg
    rw [List.getD_eq_getElem?_getD, List.getElem?_eq_getElem (by rw [hT.len]; exact hk)]
    exact List.getElem_mem _)
  have hd' := hd k (by rw [e]; omega)
  unfold Done at hd'
  rw [e] at hd' hs
  refine ⟨hk, ?_, ?_, hd'.1, fun s' h' => ?_⟩
  · rcases hs with hs | hs <;> omega
  · rcases hs with hs | hs <;> omega
  · rw [← (all_done hok h0 h1 hd k s' h').1, e]

/-- Going on from place to place: what holds between two of them. -/
structure Going (cs : List In) (T : List Sq) (w : List Nat) : Prop where
  tab : Tab cs T w
  pos : 0 < cs.length
  one : tg T 0 = ⟨0, 0, 1⟩
  done : ∀ k, (tg T k).p ≠ 0 → k ∈ w ∨ Done cs T k

theorem Done.grows {cs : List In} (hok : ∀ i ∈ cs, i.ok = true) {T T' : List Sq} {w : List Nat} {k : Nat} (hT : Tab cs T w) (h : Done cs T k) (hk : (tg T k).p ≠ 0) (hg : Grows T T') : Done cs T' k := by
  have e := hg k hk
  have hr := hT.rch k hk
  have hp := reach_right hok hr
  have hl : k < cs.length := by
    apply Classical.byContradiction
    intro hc
    rw [tg_out (by rw [hT.len]; exact hc)] at hk
    exact hk rfl
  unfold Done at h ⊢
  rw [e]
  refine ⟨h.1, fun e' he' => ?_⟩
  obtain ⟨h1, h2⟩ := h.2 e' he'
  have hq := exits_right hok hl hp.1 hp.2.1 hp.2.2 h.1 e' he'
  exact ⟨by rw [hg _ (by rw [h1]; omega), h1], h2⟩

theorem tab_start {cs : List In} : Tab cs (List.replicate cs.length (⟨0, 0, 0⟩ : Sq)) [] := by
  have z : ∀ k, tg (List.replicate cs.length (⟨0, 0, 0⟩ : Sq)) k = ⟨0, 0, 0⟩ := fun k => by
    by_cases hk : k < cs.length
    · unfold tg
      rw [List.getD_eq_getElem?_getD, List.getElem?_replicate, if_pos hk]
      rfl
    · exact tg_out (by rw [List.length_replicate]; exact hk)
  refine ⟨List.length_replicate, fun k hk => absurd (by rw [z]) hk, fun s hs => ?_, fun k hk => absurd hk (by simp), ?_⟩
  · rw [List.eq_of_mem_replicate hs]
    exact Or.inl ⟨rfl, rfl, rfl⟩
  · have := free_le (List.replicate cs.length (⟨0, 0, 0⟩ : Sq))
    rw [List.length_replicate] at this
    simpa using this

theorem first_some {cs : List In} (h0 : 0 < cs.length) : comeZ cs.length (List.replicate cs.length (⟨0, 0, 0⟩ : Sq)) [] (0, ⟨0, 0, 1⟩) = some ((List.replicate cs.length (⟨0, 0, 0⟩ : Sq)).set 0 ⟨0, 0, 1⟩, [0]) := by
  have z : tg (List.replicate cs.length (⟨0, 0, 0⟩ : Sq)) 0 = ⟨0, 0, 0⟩ := by
    unfold tg
    rw [List.getD_eq_getElem?_getD, List.getElem?_replicate, if_pos h0]
    rfl
  unfold comeZ
  dsimp only
  rw [if_neg (by omega), show (0 : Int).toNat = 0 from rfl, z, if_neg (by decide), if_neg (by decide)]
  rfl

theorem going_start {cs : List In} (h0 : 0 < cs.length) : Going cs ((List.replicate cs.length (⟨0, 0, 0⟩ : Sq)).set 0 ⟨0, 0, 1⟩) [0] := by
  have h := come_some (e := (0, ⟨0, 0, 1⟩)) tab_start Reach.start ⟨by decide, by decide⟩ (first_some h0)
  refine ⟨h.tab, h0, (h.told _ (List.mem_singleton.2 rfl)).1, fun k hk => ?_⟩
  rcases h.news k hk with h1 | h1
  · refine absurd ?_ h1
    by_cases hk' : k < cs.length
    · unfold tg
      rw [List.getD_eq_getElem?_getD, List.getElem?_replicate, if_pos hk']
      rfl
    · rw [tg_out (by rw [List.length_replicate]; exact hk')]
  · exact Or.inl h1

/-- Code without instructions is not good. -/
theorem none_bad {cs : List In} (h : ¬ 0 < cs.length) : ¬ Good cs := fun hg => h (hg 0 _ Reach.start).1

/-- What a place may be that is waiting. -/
theorem going_at {cs : List In} (hok : ∀ i ∈ cs, i.ok = true) {T : List Sq} {w : List Nat} (h : Going cs T w) {k : Nat} (hk : k ∈ w) : k < cs.length ∧ Reach cs k (tg T k) ∧ 0 ≤ (tg T k).n ∧ (tg T k).n ≤ 100 ∧ 0 ≤ (tg T k).v ∧ (tg T k).v ≤ 100 ∧ 1 ≤ (tg T k).p ∧ (tg T k).p ≤ 3 := by
  obtain ⟨h1, h2⟩ := h.tab.work k hk
  have hr := h.tab.rch k h2
  have hp := reach_right hok hr
  have hs : SaneS (tg T k) := h.tab.sane _ (by
    unfold tg
    rw [List.getD_eq_getElem?_getD, List.getElem?_eq_getElem (by rw [h.tab.len]; exact h1)]
    exact List.getElem_mem _)
  rcases hs with hs | hs
  · omega
  · exact ⟨h1, hr, by omega, by omega, by omega, by omega, by omega, by omega⟩

/-- A place is gone through. w: what is left of the work without it. -/
theorem going_step {cs : List In} (hok : ∀ i ∈ cs, i.ok = true) {T : List Sq} {w0 w : List Nat} (h : Going cs T w0) {k : Nat} (hk : k ∈ w0) (hw : ∀ j ∈ w0, j = k ∨ j ∈ w) (hw' : ∀ j ∈ w, j ∈ w0) (hwl : w.length + 1 = w0.length) :
    (needsZ cs (cs.getD k default) (tg T k) = false → ¬ Good cs) ∧
    (needsZ cs (cs.getD k default) (tg T k) = true → comesZ cs.length T w (exitsZ cs k (cs.getD k default) (tg T k)) = none → ¬ Good cs) ∧
    (∀ T' w', needsZ cs (cs.getD k default) (tg T k) = true → comesZ cs.length T w (exitsZ cs k (cs.getD k default) (tg T k)) = some (T', w') → Going cs T' w' ∧ 2 * free T' + w'.length < 2 * free T + w0.length) := by
  obtain ⟨hkl, hr, a1, a2, a3, a4, a5, a6⟩ := going_at hok h hk
  have hT : Tab cs T w := ⟨h.tab.len, h.tab.rch, h.tab.sane, fun j hj => h.tab.work j (hw' j hj), by have := h.tab.room; omega⟩
  have hex := fun hneed => exits_right hok hkl a1 a3 ⟨a5, a6⟩ hneed
  refine ⟨fun hn hg => ?_, fun hn hc => ?_, fun T' w' hn hc => ?_⟩
  · have := (hg k _ hr).2.2.2.1
    rw [hn] at this
    cases this
  · exact comes_bad hT (fun e he => ⟨Reach.step hr hkl hn he, hex hn e he⟩) hc
  · have hN := comes_some hT (fun e he => ⟨Reach.step hr hkl hn he, (hex hn e he).1, (hex hn e he).2.1⟩) hc
    refine ⟨⟨hN.tab, h.pos, ?_, fun j hj => ?_⟩, by have := hN.less; omega⟩
    · rw [hN.grows 0 (by rw [h.one]; decide), h.one]
    · have hkp : (tg T k).p ≠ 0 := by omega
      rcases hN.news j hj with h1 | h1
      · rcases h.done j h1 with h2 | h2
        · rcases hw j h2 with rfl | h3
          · refine Or.inr ?_
            unfold Done
            rw [hN.grows j hkp]
            exact ⟨hn, fun e he => ⟨(hN.told e he).1, (hN.told e he).2.2⟩⟩
          · exact Or.inl (hN.olds j h3)
        · exact Or.inr (h2.grows hok h.tab h1 hN.grows)
      · exact Or.inl h1

/-- The table of good code, the same for everybody. -/
structure Whole (cs : List In) (T : List Sq) : Prop where
  len : T.length = cs.length
  sane : ∀ s ∈ T, SaneS s
  good : Good cs
  rch : ∀ k s, s.p ≠ 0 → (tg T k = s ↔ Reach cs k s)

theorem going_end {cs : List In} (hok : ∀ i ∈ cs, i.ok = true) {T : List Sq} (h : Going cs T []) : Whole cs T := by
  have hd : ∀ k, (tg T k).p ≠ 0 → Done cs T k := fun k hk => (h.done k hk).resolve_left (by simp)
  exact ⟨h.tab.len, h.tab.sane, good_of_done hok h.tab h.pos h.one hd, fun k s hs => ⟨fun e => by rw [← e]; exact h.tab.rch k (by rw [e]; exact hs), fun hr => (all_done hok h.pos h.one hd k s hr).1⟩⟩

theorem whole_one {cs : List In} {T T' : List Sq} (h : Whole cs T) (h' : Whole cs T') : T = T' := by
  have z : ∀ {T : List Sq}, Whole cs T → ∀ k, (tg T k).p = 0 → tg T k = ⟨0, 0, 0⟩ := fun {T} hT k h => by
    by_cases hk : k < T.length
    · have hs : SaneS (tg T k) := hT.sane _ (by
        unfold tg
        rw [List.getD_eq_getElem?_getD, List.getElem?_eq_getElem hk]
        exact List.getElem_mem _)
      exact sane_zero hs h
    · exact tg_out hk
  have key : ∀ k, tg T k = tg T' k := fun k => by
    by_cases h1 : (tg T k).p = 0
    · by_cases h2 : (tg T' k).p = 0
      · rw [z h k h1, z h' k h2]
      · exact (h.rch k _ h2).2 ((h'.rch k _ h2).1 rfl)
    · exact ((h'.rch k _ h1).2 ((h.rch k _ h1).1 rfl)).symm
  apply List.ext_getElem (by rw [h.len, h'.len])
  intro k h1 h2
  have e := key k
  unfold tg at e
  rw [List.getD_eq_getElem?_getD, List.getD_eq_getElem?_getD, List.getElem?_eq_getElem h1, List.getElem?_eq_getElem h2] at e
  exact e

open Classical in
/-- Valid code; and its table. -/
noncomputable def validZ (cs : List In) : Bool := codeOkZ cs && decide (Good cs)

open Classical in
theorem valid_bad {cs : List In} (h : codeOkZ cs = false ∨ ¬ Good cs) : validZ cs = false := by
  unfold validZ
  rcases h with h | h
  · rw [h]
    rfl
  · rw [decide_eq_false h, Bool.and_false]

open Classical in
theorem valid_good {cs : List In} (h : codeOkZ cs = true) (h' : Good cs) : validZ cs = true := by
  unfold validZ
  rw [h, decide_eq_true h']
  rfl
end Go.Proofs.YtfmkgppkgmjpfaaDoor
