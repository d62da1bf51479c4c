/- The code of a tree, plainly: what is put, what is put off; how much it is. -/
import Derived.Test.YtgiejnmphfgmgaaGreatDoorPartsPure
import Derived.Test.YtgiejnmphfgmgaaGreatDoorEffIn
import Derived.Test.YtgiejnmphfgmgaaGreatDoorInsRows
namespace Go.Proofs.YtgiejnmphfgmgaaGreatDoor
open Go.RowKit Go.Deep

/-- A node, what is beneath it, and where it stands. -/
structure Tp where
  n : Nd
  k : Fo
  at_ : Nat

instance : Inhabited Tp := ⟨⟨default, .none, 0⟩⟩

def kidsAt : Fo → Nat → List Tp
  | .none, _ => []
  | .tree n k r, p => ⟨n, k, p⟩ :: kidsAt r (p + 1 + k.flat.length)

def Tp.kids (t : Tp) : List Tp := kidsAt t.k (t.at_ + 1)
def Tp.kid (t : Tp) (i : Nat) : Tp := t.kids.getD i default
def Tp.size (t : Tp) : Nat := t.k.flat.length + 1

/-- A part that is put off. -/
structure Lt where
  t : Tp
  names : List ByteArray
  fr : Nat
  wh : Nat

/-- What was made so far. -/
structure Cs where
  out : List In
  later : List Lt

def Cs.put (s : Cs) (i : In) : Cs := ⟨s.out ++ [i], s.later⟩
def In.lead (i : In) (wh : Nat) (v : Int) : In := if wh = 0 then ⟨i.op, v, i.b, i.c⟩ else if wh = 1 then ⟨i.op, i.a, v, i.c⟩ else ⟨i.op, i.a, i.b, v⟩
def Cs.lead (s : Cs) (fr wh : Nat) : Cs := ⟨s.out.set fr ((s.out.getD fr default).lead wh s.out.length), s.later⟩
def Cs.wait (s : Cs) (l : Lt) : Cs := ⟨s.out, s.later ++ [l]⟩

/-- How far back a name is. -/
def idxGo (ss : List ByteArray) (x : ByteArray) : Nat → Int
  | 0 => -1
  | i + 1 => if ((ss.getD i ⟨#[]⟩).toList == x.toList) = true then ((ss.length - 1 - i : Nat) : Int) else idxGo ss x i
def idxZ (ss : List ByteArray) (x : ByteArray) : Int := idxGo ss x ss.length

/-- The instruction behind a node's kids. -/
def lastZ (es : List Ef) (n : Nd) : In :=
  if n.kind = 7 then ⟨8, 0, 0, 0⟩ else if n.kind = 16 then ⟨15, 0, 0, 0⟩ else if n.kind = 17 then ⟨16, 0, 0, 0⟩ else if n.kind = 18 then ⟨17, 0, 0, 0⟩ else if n.kind = 19 then ⟨18, 0, 0, 0⟩ else if n.kind = 21 then ⟨20, 0, 0, 0⟩ else if n.kind = 22 then ⟨22, effPlace es n.a 0, 0, 0⟩ else ⟨14, n.kind, 0, 0⟩

def boundZ (go : Tp → List ByteArray → Cs → Cs) (t : Tp) (ss : List ByteArray) (s : Cs) : Cs := (go t ss (s.put ⟨12, 0, 0, 0⟩)).put ⟨13, 0, 0, 0⟩

def opZ (es : List Ef) (ss : List ByteArray) (s : Cs) (c : Tp) : Cs := (s.put ⟨25, effPlace es c.n.a 0, 0, 0⟩).wait ⟨c.kid 0, ss ++ [c.n.b, c.n.c], s.out.length, 1⟩

def handA (go : Tp → List ByteArray → Cs → Cs) (t : Tp) (ss : List ByteArray) (s : Cs) : Cs :=
  ((go (t.kid 0) ss (s.put ⟨21, 0, if t.n.kind = 23 then 1 else 0, 0⟩)).put ⟨23, 0, 0, 0⟩).lead s.out.length 0

def handB (t : Tp) (ss : List ByteArray) (s : Cs) : Cs := (s.put ⟨24, 0, t.n.kids - 2, 0⟩).wait ⟨(t.kid 1).kid 0, ss ++ [(t.kid 1).n.a], s.out.length, 0⟩

def handZ (es : List Ef) (go : Tp → List ByteArray → Cs → Cs) (t : Tp) (ss : List ByteArray) (s : Cs) : Cs :=
  ((t.kids.drop 2).foldl (opZ es ss) (handB t ss (handA go t ss s))).lead s.out.length 2

def ifZ (go : Tp → List ByteArray → Cs → Cs) (t : Tp) (ss : List ByteArray) (s : Cs) : Cs :=
  let s1 := go (t.kid 0) ss s
  let s2 := go (t.kid 1) ss (s1.put ⟨10, 0, 0, 0⟩)
  let s3 := go (t.kid 2) ss ((s2.put ⟨11, 0, 0, 0⟩).lead s1.out.length 0)
  s3.lead s2.out.length 0

def caseZ (go : Tp → List ByteArray → Cs → Cs) (t : Tp) (ss : List ByteArray) (s : Cs) : Cs :=
  let s1 := go (t.kid 0) ss s
  let s2 := ((go (t.kid 2) (ss ++ [t.n.a, t.n.b]) (s1.put ⟨19, 0, 0, 0⟩)).put ⟨13, 0, 0, 0⟩).put ⟨13, 0, 0, 0⟩
  let s3 := go (t.kid 1) ss ((s2.put ⟨11, 0, 0, 0⟩).lead s1.out.length 0)
  s3.lead s2.out.length 0

def partZ (es : List Ef) : Nat → Tp → List ByteArray → Cs → Cs
  | 0, _, _, s => s
  | f + 1, t, ss, s =>
    if t.n.kind = 1 then s.put ⟨1, t.n.num, 0, 0⟩ else
    if t.n.kind = 2 then s.put ⟨2, t.n.num, 0, 0⟩ else
    if t.n.kind = 3 then s.put ⟨3, 0, 0, 0⟩ else
    if t.n.kind = 4 then s.put ⟨4, 0, 0, 0⟩ else
    if t.n.kind = 5 then s.put ⟨5, idxZ ss t.n.a, 0, 0⟩ else
    if t.n.kind = 6 then (s.put ⟨6, 0, 0, 0⟩).wait ⟨t.kid 0, ss ++ [t.n.a], s.out.length, 0⟩ else
    if t.n.kind = 8 then boundZ (partZ es f) (t.kid 1) (ss ++ [t.n.a]) (partZ es f (t.kid 0) ss s) else
    if t.n.kind = 9 then boundZ (partZ es f) (t.kid 1) (ss ++ [t.n.a]) ((s.put ⟨7, 0, 0, 0⟩).wait ⟨t.kid 0, ss ++ [t.n.a, t.n.b], s.out.length, 0⟩) else
    if t.n.kind = 10 then ifZ (partZ es f) t ss s else
    if t.n.kind = 20 then caseZ (partZ es f) t ss s else
    if t.n.kind = 23 ∨ t.n.kind = 24 then handZ es (partZ es f) t ss s else
    (t.kids.foldl (fun s c => partZ es f c ss s) s).put (lastZ es t.n)

/-- What is put off, of which so much is left. -/
def restZ (es : List Ef) : Nat → Nat → Cs → Cs
  | 0, _, s => s
  | m + 1, i, s => if i < s.later.length then
      let l := s.later.getD i ⟨default, [], 0, 0⟩
      restZ es m (i + 1) ((partZ es 400 l.t l.names (s.lead l.fr l.wh)).put ⟨9, 0, 0, 0⟩) else s

/-- The whole code. -/
def codeZ (es : List Ef) (n : Nd) (k : Fo) : List In := (restZ es 400 0 ((partZ es 400 ⟨n, k, 0⟩ [] ⟨[], []⟩).put ⟨0, 0, 0, 0⟩)).out

/- How trees stand in a list. -/
def headsZ (k : Fo) : Prop := ∀ t ∈ (kidsAt k 0).drop 1, t.n.kids = 1

def goodF : Fo → Prop
  | .none => True
  | .tree n k r => n.kids = k.count ∧ kidsOk n.kind n.kids = true ∧ (n.kind = 23 ∨ n.kind = 24 → headsZ k) ∧ goodF k ∧ goodF r

theorem goodF.wf : ∀ {f : Fo}, goodF f → f.wf
  | .none, _ => trivial
  | .tree _ _ _, h => ⟨h.1, h.2.2.2.1.wf, h.2.2.2.2.wf⟩

structure Good (t : Tp) : Prop where
  kids : t.n.kids = t.k.count
  own : kidsOk t.n.kind t.n.kids = true
  heads : t.n.kind = 23 ∨ t.n.kind = 24 → headsZ t.k
  good : goodF t.k

structure Stands (ns : List Nd) (t : Tp) : Prop extends Good t where
  drop : ∃ suf, ns.drop t.at_ = t.n :: (t.k.flat ++ suf)

theorem kidsAt_len : ∀ (f : Fo) (p : Nat), (kidsAt f p).length = f.count
  | .none, _ => rfl
  | .tree n k r, p => by simp [kidsAt, Fo.count, kidsAt_len r]

theorem kidsAt_sum : ∀ (f : Fo) (p : Nat), ((kidsAt f p).map Tp.size).sum = f.flat.length
  | .none, _ => rfl
  | .tree n k r, p => by
    simp only [kidsAt, Fo.flat, List.map_cons, List.sum_cons, kidsAt_sum r, List.length_cons, List.length_append, Tp.size]
    omega

theorem kidsAt_mem : ∀ (f : Fo) (p : Nat) (ns suf : List Nd), goodF f → ns.drop p = f.flat ++ suf → ∀ t ∈ kidsAt f p, Stands ns t
  | .none, p, ns, suf, _, _, t, h => by simp [kidsAt] at h
  | .tree n k r, p, ns, suf, hg, hd, t, h => by
    obtain ⟨h1, h2, h3, h4, h5⟩ := hg
    simp only [Fo.flat, List.cons_append, List.append_assoc] at hd
    rw [kidsAt, List.mem_cons] at h
    rcases h with rfl | h
    · exact ⟨⟨h1, h2, h3, h4⟩, ⟨_, hd⟩⟩
    · refine kidsAt_mem r _ ns suf h5 ?_ t h
      rw [show p + 1 + k.flat.length = p + (1 + k.flat.length) by omega, ← List.drop_drop, hd, Nat.add_comm 1, List.drop_succ_cons, List.drop_left]

theorem kidsAt_place : ∀ (f : Fo) (p q : Nat), (kidsAt f q).map (fun t => (t.n, t.k)) = (kidsAt f p).map (fun t => (t.n, t.k))
  | .none, _, _ => rfl
  | .tree n k r, p, q => by
    simp only [kidsAt, List.map_cons]
    rw [kidsAt_place r (p + 1 + k.flat.length)]

theorem Tp.kids_len (t : Tp) : t.kids.length = t.k.count := kidsAt_len _ _
theorem Tp.kids_sum (t : Tp) : (t.kids.map Tp.size).sum + 1 = t.size := by
  have := kidsAt_sum t.k (t.at_ + 1)
  unfold Tp.kids
  rw [this]
  rfl

theorem Stands.kids_mem {ns : List Nd} {t : Tp} (h : Stands ns t) : ∀ c ∈ t.kids, Stands ns c := by
  obtain ⟨suf, hd⟩ := h.drop
  refine kidsAt_mem t.k _ ns suf h.good ?_
  rw [← List.drop_drop, hd]
  rfl

theorem Tp.kid_mem {t : Tp} {i : Nat} (h : i < t.k.count) : t.kid i ∈ t.kids := getD_mem' (by rw [t.kids_len]; exact h)
where
  getD_mem' {l : List Tp} {k : Nat} (h : k < l.length) : l.getD k default ∈ l := by
    rw [show l.getD k default = l[k] by simp [List.getD, h]]
    exact List.getElem_mem h

theorem Stands.kid {ns : List Nd} {t : Tp} (h : Stands ns t) {i : Nat} (hi : i < t.k.count) : Stands ns (t.kid i) := h.kids_mem _ (Tp.kid_mem hi)

/-- A clause has one kid. -/
theorem Stands.head {ns : List Nd} {t : Tp} (h : Stands ns t) (hk : t.n.kind = 23 ∨ t.n.kind = 24) : ∀ c ∈ t.kids.drop 1, c.n.kids = 1 ∧ c.k.count = 1 := fun c hc => by
  have h1 := h.heads hk
  have hs := h.kids_mem c (List.mem_of_mem_drop hc)
  have e : ∃ c' ∈ (kidsAt t.k 0).drop 1, (c'.n, c'.k) = (c.n, c.k) := by
    have h2 := congrArg (List.drop 1) (kidsAt_place t.k 0 (t.at_ + 1))
    rw [← List.map_drop, ← List.map_drop] at h2
    have h3 : (c.n, c.k) ∈ ((kidsAt t.k (t.at_ + 1)).drop 1).map (fun t => (t.n, t.k)) := List.mem_map_of_mem (f := fun t : Tp => (t.n, t.k)) hc
    rw [h2, List.mem_map] at h3
    obtain ⟨c', h4, h5⟩ := h3
    exact ⟨c', h4, h5⟩
  obtain ⟨c', hc', e⟩ := e
  have h6 := h1 c' hc'
  simp only [Prod.mk.injEq] at e
  rw [e.1] at h6
  have h7 := hs.kids
  exact ⟨h6, by omega⟩

theorem role_two (pk : Int) (i : Nat) (h : pk = 23 ∨ pk = 24) (hi : 1 ≤ i) : role pk i = 1 ∨ role pk i = 2 := by
  unfold role
  rw [if_pos h]
  split <;> omega

theorem head_kids {m : Nd} {c : Nat} (h : headOk m c = true) (hc : c = 1 ∨ c = 2) (ho : ownOk m = true) : m.kids = 1 := by
  unfold headOk at h
  simp only [Bool.and_eq_true] at h
  unfold ownOk at ho
  simp only [Bool.and_eq_true] at ho
  have hk := ho.1
  rcases hc with rfl | rfl
  · have e : m.kind = 25 := by simpa using h.1.1
    rw [e] at hk
    exact of_decide_eq_true hk
  · have e : m.kind = 26 := by simpa using h.1.2
    rw [e] at hk
    exact of_decide_eq_true hk

theorem spec_heads : ∀ (f : Fo) (pk : Int) (i p : Nat) (ops : List ByteArray), (pk = 23 ∨ pk = 24) → (∀ m ∈ f.flat, ownOk m = true) → specKids f pk i ops = true → 1 ≤ i → ∀ t ∈ kidsAt f p, t.n.kids = 1
  | .none, pk, i, p, ops, _, _, _, _, t, h => by simp [kidsAt] at h
  | .tree n k r, pk, i, p, ops, hp, ho, hs, hi, t, h => by
    simp only [specKids, Bool.and_eq_true] at hs
    rw [kidsAt, List.mem_cons] at h
    rcases h with rfl | h
    · exact head_kids hs.1 (role_two pk i hp hi) (ho n (by simp [Fo.flat]))
    · have ho' : ∀ m ∈ r.flat, ownOk m = true := fun m hm => ho m (by simp [Fo.flat, hm])
      have h2 := hs.2.2
      split at h2
      · rw [Bool.and_eq_true] at h2
        exact spec_heads r pk (i + 1) _ _ hp ho' h2.2 (by omega) t h
      · exact spec_heads r pk (i + 1) _ _ hp ho' h2 (by omega) t h

theorem heads_of (k : Fo) (pk : Int) (hp : pk = 23 ∨ pk = 24) (ho : ∀ m ∈ k.flat, ownOk m = true) (hs : specKids k pk 0 [] = true) : headsZ k := by
  cases k with
  | none => exact fun t h => by simp [kidsAt] at h
  | tree n k r =>
    intro t h
    rw [kidsAt, List.drop_succ_cons, List.drop_zero] at h
    simp only [specKids, Bool.and_eq_true] at hs
    have h2 := hs.2.2
    have ho' : ∀ m ∈ r.flat, ownOk m = true := fun m hm => ho m (by simp [Fo.flat, hm])
    split at h2
    · rw [Bool.and_eq_true] at h2
      exact spec_heads r pk (0 + 1) _ _ hp ho' h2.2 (by omega) t h
    · exact spec_heads r pk (0 + 1) _ _ hp ho' h2 (by omega) t h

theorem good_of : ∀ (f : Fo) (pk : Int) (i : Nat) (ops : List ByteArray), f.wf → (∀ m ∈ f.flat, ownOk m = true) → specKids f pk i ops = true → goodF f
  | .none, _, _, _, _, _, _ => trivial
  | .tree n k r, pk, i, ops, hw, ho, hs => by
    simp only [specKids, Bool.and_eq_true] at hs
    have hk : ∀ m ∈ k.flat, ownOk m = true := fun m hm => ho m (by simp [Fo.flat, hm])
    have hr : ∀ m ∈ r.flat, ownOk m = true := fun m hm => ho m (by simp [Fo.flat, hm])
    have hn := ho n (by simp [Fo.flat])
    unfold ownOk at hn
    rw [Bool.and_eq_true] at hn
    refine ⟨hw.1, hn.1, fun h => heads_of k n.kind h hk hs.2.1, good_of k n.kind 0 [] hw.2.1 hk hs.2.1, ?_⟩
    have h2 := hs.2.2
    split at h2
    · rw [Bool.and_eq_true] at h2
      exact good_of r pk (i + 1) _ hw.2.2 hr h2.2
    · exact good_of r pk (i + 1) _ hw.2.2 hr h2

/-- A tree that is right stands. -/
theorem stands_of {ns : List Nd} {n : Nd} {k : Fo} (hA : SpecAns ns true) (h1 : ns = n :: k.flat) (h2 : n.kids = k.count) (h3 : k.wf) : Stands ns ⟨n, k, 0⟩ := by
  rcases hA with ⟨-, h⟩ | ⟨-, -, -, h⟩ | ⟨-, -, n', k', e1, e2, e3, hR⟩
  · cases h
  · cases h
  obtain ⟨rfl, rfl⟩ := tree_inj h1 h2 h3 e1 e2 e3
  have hR' := hR.symm
  rw [Bool.and_eq_true, Bool.and_eq_true] at hR'
  obtain ⟨ho, -, hs⟩ := hR'
  unfold specTree at hs
  rw [Bool.and_eq_true] at hs
  have ho' : ∀ m ∈ ns, ownOk m = true := fun m hm => List.all_eq_true.1 ho m hm
  have hn := ho' n' (by rw [e1]; simp)
  have hk : ∀ m ∈ k'.flat, ownOk m = true := fun m hm => ho' m (by rw [e1]; simp [hm])
  unfold ownOk at hn
  rw [Bool.and_eq_true] at hn
  exact ⟨⟨e2, hn.1, fun h => heads_of k' n'.kind h hk hs.2, good_of k' n'.kind 0 [] e3 hk hs.2⟩, ⟨[], by rw [e1]; simp⟩⟩
end Go.Proofs.YtgiejnmphfgmgaaGreatDoor
