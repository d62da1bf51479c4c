/- How much code a tree makes, and what is put off stands. -/
import Derived.Test.YtgiejnmphfgmgaaGreatDoorCompPure
namespace Go.Proofs.YtgiejnmphfgmgaaGreatDoor
open Go.RowKit Go.Deep

def Cs.rest (s : Cs) : Nat := (s.later.map (fun l => l.t.size)).sum

/-- What was put off stands, its names are not too many, the instruction that leads to it is there. -/
def LOk (ns : List Nd) (K : Nat) (s : Cs) : Prop := ∀ l ∈ s.later, Stands ns l.t ∧ (l.names.length + 2 * l.t.size ≤ K ∧ (l.wh = 0 ∨ l.wh = 1)) ∧ l.fr < s.out.length

/-- So much more at most. -/
structure Rs (ns : List Nd) (K c z : Nat) (s s' : Cs) : Prop where
  cost : s'.out.length + 10 * s'.rest ≤ s.out.length + 10 * s.rest + c
  rest : s'.rest ≤ s.rest + z
  out : s.out.length ≤ s'.out.length
  len : s.later.length ≤ s'.later.length
  ok : LOk ns K s → LOk ns K s'
  pre : ∃ r, s'.later = s.later ++ r

theorem Rs.refl (ns : List Nd) (K : Nat) (s : Cs) : Rs ns K 0 0 s s := ⟨Nat.le_refl _, Nat.le_refl _, Nat.le_refl _, Nat.le_refl _, id, [], by simp⟩

theorem Rs.trans {ns : List Nd} {K c z c' z' : Nat} {s s' s'' : Cs} (h : Rs ns K c z s s') (h' : Rs ns K c' z' s' s'') : Rs ns K (c + c') (z + z') s s'' :=
  ⟨by have := h.cost; have := h'.cost; omega, by have := h.rest; have := h'.rest; omega, Nat.le_trans h.out h'.out, Nat.le_trans h.len h'.len, fun x => h'.ok (h.ok x), by
    obtain ⟨r, e⟩ := h.pre
    obtain ⟨r', e'⟩ := h'.pre
    exact ⟨r ++ r', by rw [e', e, List.append_assoc]⟩⟩

theorem Rs.mono {ns : List Nd} {K c z c' z' : Nat} {s s' : Cs} (h : Rs ns K c z s s') (hc : c ≤ c') (hz : z ≤ z') : Rs ns K c' z' s s' :=
  ⟨by have := h.cost; omega, by have := h.rest; omega, h.out, h.len, h.ok, h.pre⟩

theorem Rs.put (ns : List Nd) (K : Nat) (s : Cs) (i : In) : Rs ns K 1 0 s (s.put i) := by
  refine ⟨?_, Nat.le_refl _, ?_, Nat.le_refl _, fun h l hl => ?_, [], by simp [Cs.put]⟩
  · simp only [Cs.put, Cs.rest, List.length_append, List.length_singleton]; omega
  · simp only [Cs.put, List.length_append]; omega
  · obtain ⟨h1, h2, h3⟩ := h l hl
    refine ⟨h1, h2, ?_⟩
    simp only [Cs.put, List.length_append]
    omega

theorem lead_len (s : Cs) (fr wh : Nat) : (s.lead fr wh).out.length = s.out.length := by simp [Cs.lead]

theorem Rs.lead (ns : List Nd) (K : Nat) (s : Cs) (fr wh : Nat) : Rs ns K 0 0 s (s.lead fr wh) := by
  refine ⟨?_, Nat.le_refl _, by rw [lead_len]; exact Nat.le_refl _, Nat.le_refl _, fun h l hl => ?_, [], by simp [Cs.lead]⟩
  · rw [lead_len]; exact Nat.le_refl _
  · obtain ⟨h1, h2, h3⟩ := h l hl
    exact ⟨h1, h2, by rw [lead_len]; exact h3⟩

theorem Rs.wait {ns : List Nd} {K : Nat} {s : Cs} {l : Lt} (h1 : Stands ns l.t) (h2 : l.names.length + 2 * l.t.size ≤ K) (h3 : l.fr < s.out.length) (h4 : l.wh = 0 ∨ l.wh = 1 := by simp) : Rs ns K (10 * l.t.size) l.t.size s (s.wait l) := by
  refine ⟨?_, ?_, Nat.le_refl _, ?_, fun h l' hl => ?_, [l], rfl⟩
  · simp only [Cs.wait, Cs.rest, List.map_append, List.map_cons, List.map_nil, List.sum_append, List.sum_cons, List.sum_nil]; omega
  · simp only [Cs.wait, Cs.rest, List.map_append, List.map_cons, List.map_nil, List.sum_append, List.sum_cons, List.sum_nil]; omega
  · simp only [Cs.wait, List.length_append]; omega
  · simp only [Cs.wait, List.mem_append, List.mem_singleton] at hl
    rcases hl with hl | rfl
    · exact h l' hl
    · exact ⟨h1, ⟨h2, h4⟩, h3⟩

theorem kids_of (t : Tp) {c : Nat} (h : t.k.count = c) : t.kids.length = c := by rw [t.kids_len, h]

theorem kids1 {t : Tp} (h : t.k.count = 1) : t.kids = [t.kid 0] ∧ (t.kid 0).size + 1 = t.size := by
  have hl := kids_of t h
  have hs := t.kids_sum
  unfold Tp.kid
  match hk : t.kids, hl with
  | [a], _ => rw [hk] at hs; simp at hs ⊢; omega

theorem kids2 {t : Tp} (h : t.k.count = 2) : t.kids = [t.kid 0, t.kid 1] ∧ (t.kid 0).size + (t.kid 1).size + 1 = t.size := by
  have hl := kids_of t h
  have hs := t.kids_sum
  unfold Tp.kid
  match hk : t.kids, hl with
  | [a, b], _ => rw [hk] at hs; simp at hs ⊢; omega

theorem kids3 {t : Tp} (h : t.k.count = 3) : t.kids = [t.kid 0, t.kid 1, t.kid 2] ∧ (t.kid 0).size + (t.kid 1).size + (t.kid 2).size + 1 = t.size := by
  have hl := kids_of t h
  have hs := t.kids_sum
  unfold Tp.kid
  match hk : t.kids, hl with
  | [a, b, c], _ => rw [hk] at hs; simp at hs ⊢; omega

theorem kidsM {t : Tp} (h : 2 ≤ t.k.count) : t.kids = t.kid 0 :: t.kid 1 :: t.kids.drop 2 ∧ (t.kid 0).size + (t.kid 1).size + ((t.kids.drop 2).map Tp.size).sum + 1 = t.size := by
  have hl := t.kids_len
  have hs := t.kids_sum
  unfold Tp.kid
  match hk : t.kids with
  | [] => rw [hk] at hl; simp at hl; omega
  | [a] => rw [hk] at hl; simp at hl; omega
  | a :: b :: r => rw [hk] at hs; simp at hs ⊢; omega

theorem arity_at {t : Tp} (h : Good t) : arityZ t.n.kind ≠ -1 ∧ (arityZ t.n.kind = -2 → 2 ≤ t.k.count ∧ t.k.count ≤ 6) ∧ (arityZ t.n.kind ≠ -2 → (t.k.count : Int) = arityZ t.n.kind) := by
  have h1 := h.own
  have h2 := h.kids
  unfold kidsOk at h1
  split at h1
  · cases h1
  · rename_i e
    refine ⟨e, fun e2 => ?_, fun e2 => ?_⟩
    · rw [if_pos e2] at h1
      have := of_decide_eq_true h1
      omega
    · rw [if_neg e2] at h1
      have := of_decide_eq_true h1
      omega

theorem count_of {t : Tp} (h : Good t) {k : Int} (hk : t.n.kind = k) {c : Nat} (ha : arityZ k = (c : Int)) : t.k.count = c := by
  have h3 := (arity_at h).2.2
  rw [hk] at h3
  have := h3 (by omega)
  omega

theorem part1 {es : List Ef} {f : Nat} {t : Tp} {ss : List ByteArray} {s : Cs} (h : t.n.kind = 1) : partZ es (f + 1) t ss s = s.put ⟨1, t.n.num, 0, 0⟩ := by
  rw [partZ, if_pos h]

theorem part2 {es : List Ef} {f : Nat} {t : Tp} {ss : List ByteArray} {s : Cs} (h : t.n.kind = 2) : partZ es (f + 1) t ss s = s.put ⟨2, t.n.num, 0, 0⟩ := by
  rw [partZ, if_neg (by omega), if_pos h]

theorem part3 {es : List Ef} {f : Nat} {t : Tp} {ss : List ByteArray} {s : Cs} (h : t.n.kind = 3) : partZ es (f + 1) t ss s = s.put ⟨3, 0, 0, 0⟩ := by
  rw [partZ, if_neg (by omega), if_neg (by omega), if_pos h]

theorem part4 {es : List Ef} {f : Nat} {t : Tp} {ss : List ByteArray} {s : Cs} (h : t.n.kind = 4) : partZ es (f + 1) t ss s = s.put ⟨4, 0, 0, 0⟩ := by
  rw [partZ, if_neg (by omega), if_neg (by omega), if_neg (by omega), if_pos h]

theorem part5 {es : List Ef} {f : Nat} {t : Tp} {ss : List ByteArray} {s : Cs} (h : t.n.kind = 5) : partZ es (f + 1) t ss s = s.put ⟨5, idxZ ss t.n.a, 0, 0⟩ := by
  rw [partZ, if_neg (by omega), if_neg (by omega), if_neg (by omega), if_neg (by omega), if_pos h]

theorem part6 {es : List Ef} {f : Nat} {t : Tp} {ss : List ByteArray} {s : Cs} (h : t.n.kind = 6) : partZ es (f + 1) t ss s = (s.put ⟨6, 0, 0, 0⟩).wait ⟨t.kid 0, ss ++ [t.n.a], s.out.length, 0⟩ := by
  rw [partZ, if_neg (by omega), if_neg (by omega), if_neg (by omega), if_neg (by omega), if_neg (by omega), if_pos h]

theorem part8 {es : List Ef} {f : Nat} {t : Tp} {ss : List ByteArray} {s : Cs} (h : t.n.kind = 8) : partZ es (f + 1) t ss s = boundZ (partZ es f) (t.kid 1) (ss ++ [t.n.a]) (partZ es f (t.kid 0) ss s) := by
  rw [partZ, if_neg (by omega), if_neg (by omega), if_neg (by omega), if_neg (by omega), if_neg (by omega), if_neg (by omega), if_pos h]

theorem part9 {es : List Ef} {f : Nat} {t : Tp} {ss : List ByteArray} {s : Cs} (h : t.n.kind = 9) : partZ es (f + 1) t ss s = boundZ (partZ es f) (t.kid 1) (ss ++ [t.n.a]) ((s.put ⟨7, 0, 0, 0⟩).wait ⟨t.kid 0, ss ++ [t.n.a, t.n.b], s.out.length, 0⟩) := by
  rw [partZ, if_neg (by omega), if_neg (by omega), if_neg (by omega), if_neg (by omega), if_neg (by omega), if_neg (by omega), if_neg (by omega), if_pos h]

theorem part10 {es : List Ef} {f : Nat} {t : Tp} {ss : List ByteArray} {s : Cs} (h : t.n.kind = 10) : partZ es (f + 1) t ss s = ifZ (partZ es f) t ss s := by
  rw [partZ, if_neg (by omega), if_neg (by omega), if_neg (by omega), if_neg (by omega), if_neg (by omega), if_neg (by omega), if_neg (by omega), if_neg (by omega), if_pos h]

theorem part20 {es : List Ef} {f : Nat} {t : Tp} {ss : List ByteArray} {s : Cs} (h : t.n.kind = 20) : partZ es (f + 1) t ss s = caseZ (partZ es f) t ss s := by
  rw [partZ, if_neg (by omega), if_neg (by omega), if_neg (by omega), if_neg (by omega), if_neg (by omega), if_neg (by omega), if_neg (by omega), if_neg (by omega), if_neg (by omega), if_pos h]

theorem partH {es : List Ef} {f : Nat} {t : Tp} {ss : List ByteArray} {s : Cs} (h : t.n.kind = 23 ∨ t.n.kind = 24) : partZ es (f + 1) t ss s = handZ es (partZ es f) t ss s := by
  rw [partZ, if_neg (by omega), if_neg (by omega), if_neg (by omega), if_neg (by omega), if_neg (by omega), if_neg (by omega), if_neg (by omega), if_neg (by omega), if_neg (by omega), if_neg (by omega), if_pos h]

theorem partK {es : List Ef} {f : Nat} {t : Tp} {ss : List ByteArray} {s : Cs} (h1 : t.n.kind ≠ 1) (h2 : t.n.kind ≠ 2) (h3 : t.n.kind ≠ 3) (h4 : t.n.kind ≠ 4) (h5 : t.n.kind ≠ 5) (h6 : t.n.kind ≠ 6) (h8 : t.n.kind ≠ 8) (h9 : t.n.kind ≠ 9) (h10 : t.n.kind ≠ 10) (h20 : t.n.kind ≠ 20) (h23 : t.n.kind ≠ 23) (h24 : t.n.kind ≠ 24) : partZ es (f + 1) t ss s = (t.kids.foldl (fun s c => partZ es f c ss s) s).put (lastZ es t.n) := by
  rw [partZ, if_neg h1, if_neg h2, if_neg h3, if_neg h4, if_neg h5, if_neg h6, if_neg h8, if_neg h9, if_neg h10, if_neg h20, if_neg (by omega)]

section
variable {ns : List Nd} {K : Nat} {es : List Ef}

/-- What making a part costs. -/
def PartR (ns : List Nd) (K : Nat) (go : Tp → List ByteArray → Cs → Cs) (F : Nat) : Prop := ∀ t ss s, t.size ≤ F → Stands ns t → ss.length + 2 * t.size ≤ K → Rs ns K (10 * t.size - 1) (t.size - 1) s (go t ss s)

theorem Tp.size_pos (t : Tp) : 1 ≤ t.size := by unfold Tp.size; omega

theorem bound_r {go : Tp → List ByteArray → Cs → Cs} {F : Nat} (hgo : PartR ns K go F) {t : Tp} {ss : List ByteArray} (s : Cs) (h1 : t.size ≤ F) (h2 : Stands ns t) (h3 : ss.length + 2 * t.size ≤ K) : Rs ns K (10 * t.size + 1) (t.size - 1) s (boundZ go t ss s) :=
  (((Rs.put ns K s _).trans (hgo t ss _ h1 h2 h3)).trans (Rs.put ns K _ _)).mono (by have := t.size_pos; omega) (by omega)

theorem kids_r {go : Tp → List ByteArray → Cs → Cs} {F : Nat} (hgo : PartR ns K go F) {ss : List ByteArray} : ∀ (l : List Tp) (s : Cs), (∀ c ∈ l, c.size ≤ F ∧ Stands ns c ∧ ss.length + 2 * c.size ≤ K) → Rs ns K (10 * (l.map Tp.size).sum) ((l.map Tp.size).sum) s (l.foldl (fun s c => go c ss s) s)
  | [], s, _ => Rs.refl _ _ _
  | c :: l, s, h => by
    have hc := h c List.mem_cons_self
    refine ((hgo c ss s hc.1 hc.2.1 hc.2.2).trans (kids_r hgo l _ (fun x hx => h x (List.mem_cons_of_mem _ hx)))).mono ?_ ?_
    · simp only [List.map_cons, List.sum_cons]; omega
    · simp only [List.map_cons, List.sum_cons]; omega

theorem op_r {ss : List ByteArray} (s : Cs) (c : Tp) (h1 : c.k.count = 1) (h2 : Stands ns c) (h3 : ss.length + 2 * c.size ≤ K) : Rs ns K (10 * c.size) (c.size - 1) s (opZ es ss s c) := by
  obtain ⟨-, e⟩ := kids1 h1
  refine ((Rs.put ns K s _).trans (Rs.wait (l := ⟨c.kid 0, ss ++ [c.n.b, c.n.c], s.out.length, 1⟩) (h2.kid (by omega)) ?_ ?_)).mono ?_ ?_
  · simp only [List.length_append, List.length_cons, List.length_nil]; omega
  · simp [Cs.put]
  · show 1 + 10 * (c.kid 0).size ≤ _; omega
  · show 0 + (c.kid 0).size ≤ _; omega

theorem ops_r {ss : List ByteArray} : ∀ (l : List Tp) (s : Cs), (∀ c ∈ l, c.k.count = 1 ∧ Stands ns c ∧ ss.length + 2 * c.size ≤ K) → Rs ns K (10 * (l.map Tp.size).sum) ((l.map Tp.size).sum) s (l.foldl (opZ es ss) s)
  | [], s, _ => Rs.refl _ _ _
  | c :: l, s, h => by
    have hc := h c List.mem_cons_self
    refine ((op_r s c hc.1 hc.2.1 hc.2.2).trans (ops_r l _ (fun x hx => h x (List.mem_cons_of_mem _ hx)))).mono ?_ ?_
    · simp only [List.map_cons, List.sum_cons]; omega
    · simp only [List.map_cons, List.sum_cons]; omega

theorem sum_mem (l : List Tp) (c : Tp) (h : c ∈ l) : c.size ≤ (l.map Tp.size).sum := by
  induction l with
  | nil => simp at h
  | cons a l ih =>
    simp only [List.map_cons, List.sum_cons]
    rw [List.mem_cons] at h
    rcases h with rfl | h
    · omega
    · have := ih h; omega

theorem part_r : ∀ F, PartR ns K (partZ es F) F := by
  intro F
  induction F with
  | zero => intro t ss s h; have := t.size_pos; omega
  | succ F ih =>
    intro t ss s hF hs hK
    have hg := hs.toGood
    have hp := t.size_pos
    have one : ∀ i, Rs ns K (10 * t.size - 1) (t.size - 1) s (s.put i) := fun i => (Rs.put ns K s i).mono (by omega) (by omega)
    by_cases e : t.n.kind = 1
    · rw [part1 e]
      exact one _
    have n1 := e
    clear e
    by_cases e : t.n.kind = 2
    · rw [part2 e]
      exact one _
    have n2 := e
    clear e
    by_cases e : t.n.kind = 3
    · rw [part3 e]
      exact one _
    have n3 := e
    clear e
    by_cases e : t.n.kind = 4
    · rw [part4 e]
      exact one _
    have n4 := e
    clear e
    by_cases e : t.n.kind = 5
    · rw [part5 e]
      exact one _
    have n5 := e
    clear e
    by_cases e : t.n.kind = 6
    · rw [part6 e]
      obtain ⟨-, e1⟩ := kids1 (count_of hg e (c := 1) rfl)
      refine ((Rs.put ns K s _).trans (Rs.wait (l := ⟨t.kid 0, ss ++ [t.n.a], s.out.length, 0⟩) (hs.kid (by rw [count_of hg e (c := 1) rfl]; omega)) ?_ ?_)).mono ?_ ?_
      · simp only [List.length_append, List.length_cons, List.length_nil]; omega
      · simp [Cs.put]
      · show 1 + 10 * (t.kid 0).size ≤ _; omega
      · show 0 + (t.kid 0).size ≤ _; omega
    have n6 := e
    clear e
    by_cases e : t.n.kind = 8
    · rw [part8 e]
      have hc := count_of hg e (c := 2) rfl
      obtain ⟨-, e1⟩ := kids2 hc
      have p0 := (t.kid 0).size_pos
      have p1 := (t.kid 1).size_pos
      refine ((ih (t.kid 0) ss s (by omega) (hs.kid (by omega)) (by omega)).trans (bound_r ih _ (by omega) (hs.kid (by omega)) ?_)).mono (by omega) (by omega)
      simp only [List.length_append, List.length_cons, List.length_nil]; omega
    have n8 := e
    clear e
    by_cases e : t.n.kind = 9
    · rw [part9 e]
      have hc := count_of hg e (c := 2) rfl
      obtain ⟨-, e1⟩ := kids2 hc
      have p0 := (t.kid 0).size_pos
      have p1 := (t.kid 1).size_pos
      refine (((Rs.put ns K s _).trans (Rs.wait (l := ⟨t.kid 0, ss ++ [t.n.a, t.n.b], s.out.length, 0⟩) (hs.kid (by omega)) ?_ ?_)).trans (bound_r ih _ (by omega) (hs.kid (by omega)) ?_)).mono ?_ ?_
      · simp only [List.length_append, List.length_cons, List.length_nil]; omega
      · simp [Cs.put]
      · simp only [List.length_append, List.length_cons, List.length_nil]; omega
      · show 1 + 10 * (t.kid 0).size + _ ≤ _; omega
      · show 0 + (t.kid 0).size + _ ≤ _; omega
    have n9 := e
    clear e
    by_cases e : t.n.kind = 10
    · rw [part10 e]
      have hc := count_of hg e (c := 3) rfl
      obtain ⟨-, e1⟩ := kids3 hc
      have p0 := (t.kid 0).size_pos
      have p1 := (t.kid 1).size_pos
      have p2 := (t.kid 2).size_pos
      unfold ifZ
      exact ((((((ih (t.kid 0) ss s (by omega) (hs.kid (by omega)) (by omega)).trans (Rs.put ns K _ _)).trans (ih (t.kid 1) ss _ (by omega) (hs.kid (by omega)) (by omega))).trans (Rs.put ns K _ _)).trans (Rs.lead ns K _ _ _)).trans ((ih (t.kid 2) ss _ (by omega) (hs.kid (by omega)) (by omega)).trans (Rs.lead ns K _ _ _))).mono (by omega) (by omega)
    have n10 := e
    clear e
    by_cases e : t.n.kind = 20
    · rw [part20 e]
      have hc := count_of hg e (c := 3) rfl
      obtain ⟨-, e1⟩ := kids3 hc
      have p0 := (t.kid 0).size_pos
      have p1 := (t.kid 1).size_pos
      have p2 := (t.kid 2).size_pos
      have h3 : (ss ++ [t.n.a, t.n.b]).length + 2 * (t.kid 2).size ≤ K := by simp only [List.length_append, List.length_cons, List.length_nil]; omega
      unfold caseZ
      exact ((((((((ih (t.kid 0) ss s (by omega) (hs.kid (by omega)) (by omega)).trans (Rs.put ns K _ _)).trans (ih (t.kid 2) (ss ++ [t.n.a, t.n.b]) _ (by omega) (hs.kid (by omega)) h3)).trans (Rs.put ns K _ _)).trans (Rs.put ns K _ _)).trans (Rs.put ns K _ _)).trans (Rs.lead ns K _ _ _)).trans ((ih (t.kid 1) ss _ (by omega) (hs.kid (by omega)) (by omega)).trans (Rs.lead ns K _ _ _))).mono (by omega) (by omega)
    have n20 := e
    clear e
    by_cases e : t.n.kind = 23 ∨ t.n.kind = 24
    · rw [partH e]
      have hc : 2 ≤ t.k.count := by
        have := (arity_at hg).2.1 (by rcases e with e | e <;> rw [e] <;> rfl)
        exact this.1
      obtain ⟨e0, e1⟩ := kidsM hc
      have hh := hs.head e
      have hh1 : (t.kid 1).k.count = 1 := (hh (t.kid 1) (by rw [e0]; simp)).2
      obtain ⟨-, e2⟩ := kids1 hh1
      have p0 := (t.kid 0).size_pos
      have p1 := (t.kid 1).size_pos
      have r1 : Rs ns K (10 * (t.kid 0).size + 1) ((t.kid 0).size) s (handA (partZ es F) t ss s) := by
        unfold handA
        exact ((((Rs.put ns K s _).trans (ih (t.kid 0) ss _ (by omega) (hs.kid (by omega)) (by omega))).trans (Rs.put ns K _ _)).trans (Rs.lead ns K _ _ _)).mono (by omega) (by omega)
      have r2 : Rs ns K (10 * (t.kid 1).size) ((t.kid 1).size) (handA (partZ es F) t ss s) (handB t ss (handA (partZ es F) t ss s)) := by
        unfold handB
        refine ((Rs.put ns K _ _).trans (Rs.wait (l := ⟨(t.kid 1).kid 0, ss ++ [(t.kid 1).n.a], (handA (partZ es F) t ss s).out.length, 0⟩) ((hs.kid (by omega)).kid (by omega)) ?_ ?_)).mono ?_ ?_
        · simp only [List.length_append, List.length_cons, List.length_nil]; omega
        · simp [Cs.put]
        · show 1 + 10 * ((t.kid 1).kid 0).size ≤ _; omega
        · show 0 + ((t.kid 1).kid 0).size ≤ _; omega
      have r3 : Rs ns K _ _ _ ((t.kids.drop 2).foldl (opZ es ss) (handB t ss (handA (partZ es F) t ss s))) := ops_r (ns := ns) (K := K) (t.kids.drop 2) _ (fun c hc => by
        have h4 := sum_mem _ c hc
        refine ⟨(hh c ?_).2, hs.kids_mem c (List.mem_of_mem_drop hc), by omega⟩
        rw [show (2 : Nat) = 1 + 1 from rfl, ← List.drop_drop] at hc
        exact List.mem_of_mem_drop hc)
      unfold handZ
      exact (((r1.trans r2).trans r3).trans (Rs.lead ns K _ _ _)).mono (by omega) (by omega)
    · rw [partK n1 n2 n3 n4 n5 n6 n8 n9 n10 n20 (fun h => e (Or.inl h)) (fun h => e (Or.inr h))]
      have e1 := t.kids_sum
      refine ((kids_r ih t.kids s (fun c hc => ?_)).trans (Rs.put ns K _ _)).mono (by omega) (by omega)
      have h4 := sum_mem _ c hc
      exact ⟨by omega, hs.kids_mem c hc, by omega⟩
end
end Go.Proofs.YtgiejnmphfgmgaaGreatDoor
