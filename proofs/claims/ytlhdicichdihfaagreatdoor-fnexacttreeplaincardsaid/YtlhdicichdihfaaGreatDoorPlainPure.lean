/- Names made anew, as the specification does it, are those that the program's walk makes, where nothing stands free. -/
import Derived.Test.YtlhdicichdihfaaGreatDoorSpecFreeB
namespace Go.Proofs.YtlhdicichdihfaaGreatDoor
open Go.RowKit

/-- A node with its names named anew: a name that is not known stays. -/
def renS (n : Nd) (sc : Sco) (made : Nat) : Nd := if n.kind = 5 then { n with a := (findS sc n.a).getD n.a } else renZ n sc made

def stepS (n : Nd) (sc : Sco) (s : Wst) : Wst := ⟨s.plain ++ [renS n sc s.made], s.free ++ lostZ n sc, s.made + makesZ n.kind⟩

def kidsS (old new : Nd) : Nat → Fo → Sco → Wst → Wst
  | _, .none, _, s => s
  | i, .tree n k r, sc, s =>
    kidsS old new (i + 1) r sc (kidsS n (renZ n (openS old new i sc) s.made) 0 k (openS old new i sc) (stepS n (openS old new i sc) s))

def walkS (n : Nd) (k : Fo) (sc : Sco) (s : Wst) : Wst := kidsS n (renZ n sc s.made) 0 k sc (stepS n sc s)

theorem kidsS_tree (old new n : Nd) (k r : Fo) (i : Nat) (sc : Sco) (s : Wst) : kidsS old new i (.tree n k r) sc s = kidsS old new (i + 1) r sc (walkS n k (openS old new i sc) s) := by
  unfold walkS
  rw [kidsS]

theorem kidsW_free : ∀ (f : Fo) (old new : Nd) (i : Nat) (sc : Sco) (s : Wst), ∃ l, (kidsW old new i f sc s).free = s.free ++ l
  | .none, _, _, _, _, s => ⟨[], by simp [kidsW]⟩
  | .tree n k r, old, new, i, sc, s => by
    obtain ⟨l1, h1⟩ := kidsW_free k n (renZ n (openS old new i sc) s.made) 0 (openS old new i sc) (stepW n (openS old new i sc) s)
    obtain ⟨l2, h2⟩ := kidsW_free r old new (i + 1) sc (kidsW n (renZ n (openS old new i sc) s.made) 0 k (openS old new i sc) (stepW n (openS old new i sc) s))
    refine ⟨lostZ n (openS old new i sc) ++ l1 ++ l2, ?_⟩
    rw [kidsW, h2, h1]
    simp [stepW, List.append_assoc]

theorem step_same {n : Nd} {sc : Sco} {s : Wst} (h : (stepW n sc s).free = []) : stepS n sc s = stepW n sc s := by
  unfold stepS stepW at *
  simp only [List.append_eq_nil_iff] at h
  have e : renS n sc s.made = renZ n sc s.made := by
    unfold renS
    by_cases h5 : n.kind = 5
    · rw [if_pos h5]
      unfold renZ
      rw [if_pos h5]
      have h2 := h.2
      unfold lostZ at h2
      by_cases hf : findS sc n.a = none
      · rw [if_pos ⟨h5, hf⟩] at h2
        cases h2
      · obtain ⟨y, hy⟩ := Option.ne_none_iff_exists'.1 hf
        rw [hy]
        rfl
    · rw [if_neg h5]
  rw [e]

theorem kidsS_same : ∀ (f : Fo) (old new : Nd) (i : Nat) (sc : Sco) (s : Wst), (kidsW old new i f sc s).free = [] → kidsS old new i f sc s = kidsW old new i f sc s
  | .none, _, _, _, _, _, _ => rfl
  | .tree n k r, old, new, i, sc, s, h => by
    rw [kidsW] at h
    obtain ⟨l2, h2⟩ := kidsW_free r old new (i + 1) sc (kidsW n (renZ n (openS old new i sc) s.made) 0 k (openS old new i sc) (stepW n (openS old new i sc) s))
    obtain ⟨l1, h1⟩ := kidsW_free k n (renZ n (openS old new i sc) s.made) 0 (openS old new i sc) (stepW n (openS old new i sc) s)
    have e2 : (kidsW n (renZ n (openS old new i sc) s.made) 0 k (openS old new i sc) (stepW n (openS old new i sc) s)).free = [] := by
      rw [h2] at h
      exact (List.append_eq_nil_iff.1 h).1
    have e1 : (stepW n (openS old new i sc) s).free = [] := by
      rw [h1] at e2
      exact (List.append_eq_nil_iff.1 e2).1
    rw [kidsS, kidsW, step_same e1, kidsS_same k n _ 0 _ _ e2]
    exact kidsS_same r old new (i + 1) sc _ h

theorem walkS_same {n : Nd} {k : Fo} {sc : Sco} {s : Wst} (h : (walkW n k sc s).free = []) : walkS n k sc s = walkW n k sc s := by
  unfold walkW at h
  obtain ⟨l1, h1⟩ := kidsW_free k n (renZ n sc s.made) 0 sc (stepW n sc s)
  have e1 : (stepW n sc s).free = [] := by
    rw [h1] at h
    exact (List.append_eq_nil_iff.1 h).1
  unfold walkS walkW
  rw [step_same e1]
  exact kidsS_same k n _ 0 sc _ h

theorem kidsS_len : ∀ (f : Fo) (old new : Nd) (i : Nat) (sc : Sco) (s : Wst), (kidsS old new i f sc s).plain.length = s.plain.length + f.flat.length ∧ (kidsS old new i f sc s).free.length ≤ s.free.length + f.flat.length ∧ (kidsS old new i f sc s).made ≤ s.made + 2 * f.flat.length
  | .none, _, _, _, _, _ => by simp [kidsS, Fo.flat]
  | .tree n k r, old, new, i, sc, s => by
    have h1 := kidsS_len k n (renZ n (openS old new i sc) s.made) 0 (openS old new i sc) (stepS n (openS old new i sc) s)
    have h2 := kidsS_len r old new (i + 1) sc (kidsS n (renZ n (openS old new i sc) s.made) 0 k (openS old new i sc) (stepS n (openS old new i sc) s))
    have hm := makesZ_le n.kind
    have hf := lostZ_len n (openS old new i sc)
    have hs1 : (stepS n (openS old new i sc) s).plain.length = s.plain.length + 1 := by simp [stepS]
    have hs2 : (stepS n (openS old new i sc) s).free.length ≤ s.free.length + 1 := by simp only [stepS, List.length_append]; omega
    have hs3 : (stepS n (openS old new i sc) s).made ≤ s.made + 2 := by simp only [stepS]; omega
    simp only [kidsS, Fo.flat, List.length_cons, List.length_append]
    omega

theorem walkS_room {n : Nd} {k : Fo} {sc : Sco} {s : Wst} {c : Nat} (h : Room (1 + k.flat.length + c) s) : Room c (walkS n k sc s) := by
  obtain ⟨h1, h2, h3⟩ := kidsS_len k n (renZ n sc s.made) 0 sc (stepS n sc s)
  have e1 := h.plain
  have e2 := h.free
  have e3 := h.made
  have h4 := lostZ_len n sc
  have h5 := makesZ_le n.kind
  have s1 : (stepS n sc s).plain.length = s.plain.length + 1 := by simp [stepS]
  have s2 : (stepS n sc s).free.length ≤ s.free.length + 1 := by simp only [stepS, List.length_append]; omega
  have s3 : (stepS n sc s).made ≤ s.made + 2 := by simp only [stepS]; omega
  unfold walkS
  exact ⟨by omega, by omega, by omega⟩

/-- The names known and what they are called now, the outermost first. -/
def fromZ (sc : Sco) : List ByteArray := (sc.map (·.1)).reverse
def toZ (sc : Sco) : List ByteArray := (sc.map (·.2)).reverse

theorem from_len (sc : Sco) : (fromZ sc).length = sc.length := by simp [fromZ]
theorem to_len (sc : Sco) : (toZ sc).length = sc.length := by simp [toZ]

theorem from_open : ∀ (xs ys : List ByteArray) (sc : Sco), xs.length = ys.length → fromZ ((xs.zip ys).foldl (fun s p => p :: s) sc) = fromZ sc ++ xs ∧ toZ ((xs.zip ys).foldl (fun s p => p :: s) sc) = toZ sc ++ ys
  | [], [], sc, _ => by simp
  | [], _ :: _, _, h => by simp at h
  | _ :: _, [], _, h => by simp at h
  | a :: xs, b :: ys, sc, h => by
    obtain ⟨h1, h2⟩ := from_open xs ys ((a, b) :: sc) (by simpa using h)
    rw [List.zip_cons_cons, List.foldl_cons, h1, h2]
    simp [fromZ, toZ]

/-- The names that a node makes. -/
def newsZ (k : Int) (made : Nat) : List ByteArray := if makesZ k = 0 then [] else if makesZ k = 1 then [freshZ made] else [freshZ made, freshZ (made + 1)]

theorem newsZ_len (k : Int) (made : Nat) : (newsZ k made).length = makesZ k := by
  have := makesZ_le k
  unfold newsZ
  by_cases h0 : makesZ k = 0
  · rw [if_pos h0, h0]; rfl
  · rw [if_neg h0]
    by_cases h1 : makesZ k = 1
    · rw [if_pos h1, h1]; rfl
    · rw [if_neg h1]
      simp
      omega

theorem known_news (n : Nd) (sc : Sco) (made i : Nat) : knownZ (renZ n sc made) i = (newsZ n.kind made).take (knownZ n i).length ∧ (knownZ n i).length ≤ makesZ n.kind := by
  obtain ⟨kd, num, a, b, c, kids⟩ := n
  have hk : (renZ ⟨kd, num, a, b, c, kids⟩ sc made).kind = kd := renZ_kind _ _ _
  unfold knownZ
  rw [hk]
  unfold newsZ makesZ renZ
  dsimp only
  by_cases h6 : kd = 6
  · subst h6; exact ⟨rfl, by simp⟩
  by_cases h25 : kd = 25
  · subst h25; exact ⟨rfl, by simp⟩
  by_cases h8 : kd = 8
  · subst h8
    by_cases hi : i = 1
    · subst hi; exact ⟨rfl, by simp⟩
    · simp [hi]
  by_cases h9 : kd = 9
  · subst h9
    by_cases hi : i = 1
    · subst hi; exact ⟨rfl, by simp⟩
    · simp [hi]
  by_cases h20 : kd = 20
  · subst h20
    by_cases hi : i = 2
    · subst hi; exact ⟨rfl, by simp⟩
    · simp [hi]
  by_cases h26 : kd = 26
  · subst h26; simp
  · simp [h6, h25, h8, h9, h20, h26]

theorem open_from (n : Nd) (sc : Sco) (made i : Nat) (sc' : Sco) : fromZ (openS n (renZ n sc made) i sc') = fromZ sc' ++ knownZ n i ∧ toZ (openS n (renZ n sc made) i sc') = toZ sc' ++ (newsZ n.kind made).take (knownZ n i).length := by
  rw [← (known_news n sc made i).1]
  exact from_open _ _ _ (knownZ_same (renZ_kind n sc made).symm i)

/-- What a name is called now, found from the end on. -/
theorem now_last : ∀ (sc : Sco) (s : ByteArray), (findS sc s).getD s = match sc.find? (fun p => decide (p.1 = s)) with | some p => p.2 | none => s
  | [], s => rfl
  | (x, y) :: r, s => by
    unfold findS
    by_cases h : x = s
    · simp [h]
    · rw [if_neg h, List.find?_cons_of_neg (by simpa using h)]
      exact now_last r s
end Go.Proofs.YtlhdicichdihfaaGreatDoor
