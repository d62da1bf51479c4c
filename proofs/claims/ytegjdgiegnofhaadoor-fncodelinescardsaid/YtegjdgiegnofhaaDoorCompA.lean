/- Lists of instructions as they lie in memory: what the laws' own helpers do to them. -/
import Derived.Test.YtegjdgiegnofhaaDoorOwnRow
import Derived.Test.YtegjdgiegnofhaaDoorTreeAll
import Derived.Test.YtegjdgiegnofhaaDoorEffM
namespace Go.Proofs.YtegjdgiegnofhaaDoor
open Go.RowKit Go.Deep Go.ChangeShapes Go.WideShapes

/-- An instruction as a plain value. -/
structure In where
  op : Int
  a : Int
  b : Int
  c : Int

instance : Inhabited In := ⟨⟨0, 0, 0, 0⟩⟩

/-- What an instruction's cell holds. -/
def In.cell (n : In) : Nat → Value
  | 0 => .int .i64 n.op
  | 1 => .int .i64 n.a
  | 2 => .int .i64 n.b
  | _ => .int .i64 n.c

def In.val (n : In) : Value := .agg #[.int .i64 n.op, .int .i64 n.a, .int .i64 n.b, .int .i64 n.c]

/-- These instructions lie one behind the other from there on. -/
def InsAt (w : World) (b off : Nat) (ns : List In) : Prop :=
  ∀ k, k < ns.length → ∀ c, c < 4 → w.cell? ⟨b, off + k * 4 + c, none⟩ = some ((ns.getD k default).cell c)

theorem InsAt.below {w w' : World} {b off B : Nat} {ns : List In} (h : InsAt w b off ns) (hb : Below B w w') (hB : b < B) : InsAt w' b off ns :=
  fun k hk c hc => (hb.cell hB).trans (h k hk c hc)

/-- This value is a slice of these instructions. -/
def InsSlice (w : World) (v : Value) (ns : List In) : Prop :=
  ∃ a cap, v = .slice a ns.length cap ∧ (ns = [] ∨ ∃ b off, a = some ⟨b, off, none⟩ ∧ b < w.heap.size ∧ InsAt w b off ns)

theorem InsSlice.below {w w' : World} {v : Value} {ns : List In} (h : InsSlice w v ns) (hb : Below w.heap.size w w') : InsSlice w' v ns := by
  obtain ⟨a, cap, rfl, h⟩ := h
  refine ⟨a, cap, rfl, h.imp id ?_⟩
  rintro ⟨b, off, rfl, hlt, hn⟩
  exact ⟨b, off, rfl, Nat.lt_of_lt_of_le hlt hb.size, hn.below hb hlt⟩

section
variable {H : Type} {enc : TypeId × Value → H} {W : World} {sp : Nat → Bool} {held : Bool}

end

theorem wrap_less {x : Int} {s : Nat} (h0 : 0 ≤ x) (h1 : x ≤ 1048576) (hs : s ≤ maxLen) : wrap64 (x - s) = x - s := by
  unfold maxLen at hs
  unfold wrap64
  omega

theorem wrap_one {k len : Nat} (hk : k < len) (hm : len ≤ 1048576) : wrap64 ((k : Int) + 1) = ((k + 1 : Nat) : Int) := by
  unfold wrap64
  omega

end Go.Proofs.YtegjdgiegnofhaaDoor

/- The code of a tree, plainly: what is put, what is put off; how much it is. -/
namespace Go.Proofs.YtegjdgiegnofhaaDoor
open Go.RowKit Go.Deep

/-- A node, what is beneath it, and where it stands. -/
structure Tp where
  n : Nd
  k : Fo
  at_ : Nat

instance : Inhabited Tp := ⟨⟨default, .none, 0⟩⟩

def kidsAt : Fo → Nat → List Tp
  | .none, _ => []
  | .tree n k r, p => ⟨n, k, p⟩ :: kidsAt r (p + 1 + k.flat.length)

def Tp.kids (t : Tp) : List Tp := kidsAt t.k (t.at_ + 1)
def Tp.kid (t : Tp) (i : Nat) : Tp := t.kids.getD i default
def Tp.size (t : Tp) : Nat := t.k.flat.length + 1

/-- A part that is put off. -/
structure Lt where
  t : Tp
  names : List ByteArray
  fr : Nat
  wh : Nat

/-- What was made so far. -/
structure Cs where
  out : List In
  later : List Lt

def Cs.put (s : Cs) (i : In) : Cs := ⟨s.out ++ [i], s.later⟩
def In.lead (i : In) (wh : Nat) (v : Int) : In := if wh = 0 then ⟨i.op, v, i.b, i.c⟩ else if wh = 1 then ⟨i.op, i.a, v, i.c⟩ else ⟨i.op, i.a, i.b, v⟩
def Cs.lead (s : Cs) (fr wh : Nat) : Cs := ⟨s.out.set fr ((s.out.getD fr default).lead wh s.out.length), s.later⟩
def Cs.wait (s : Cs) (l : Lt) : Cs := ⟨s.out, s.later ++ [l]⟩

/-- How far back a name is. -/
def idxGo (ss : List ByteArray) (x : ByteArray) : Nat → Int
  | 0 => -1
  | i + 1 => if ((ss.getD i ⟨#[]⟩).toList == x.toList) = true then ((ss.length - 1 - i : Nat) : Int) else idxGo ss x i
def idxZ (ss : List ByteArray) (x : ByteArray) : Int := idxGo ss x ss.length

/-- The instruction behind a node's kids. -/
def lastZ (es : List Ef) (n : Nd) : In :=
  if n.kind = 7 then ⟨8, 0, 0, 0⟩ else if n.kind = 16 then ⟨15, 0, 0, 0⟩ else if n.kind = 17 then ⟨16, 0, 0, 0⟩ else if n.kind = 18 then ⟨17, 0, 0, 0⟩ else if n.kind = 19 then ⟨18, 0, 0, 0⟩ else if n.kind = 21 then ⟨20, 0, 0, 0⟩ else if n.kind = 22 then ⟨22, effPlace es n.a 0, 0, 0⟩ else ⟨14, n.kind, 0, 0⟩

def boundZ (go : Tp → List ByteArray → Cs → Cs) (t : Tp) (ss : List ByteArray) (s : Cs) : Cs := (go t ss (s.put ⟨12, 0, 0, 0⟩)).put ⟨13, 0, 0, 0⟩

def opZ (es : List Ef) (ss : List ByteArray) (s : Cs) (c : Tp) : Cs := (s.put ⟨25, effPlace es c.n.a 0, 0, 0⟩).wait ⟨c.kid 0, ss ++ [c.n.b, c.n.c], s.out.length, 1⟩

def handA (go : Tp → List ByteArray → Cs → Cs) (t : Tp) (ss : List ByteArray) (s : Cs) : Cs :=
  ((go (t.kid 0) ss (s.put ⟨21, 0, if t.n.kind = 23 then 1 else 0, 0⟩)).put ⟨23, 0, 0, 0⟩).lead s.out.length 0

def handB (t : Tp) (ss : List ByteArray) (s : Cs) : Cs := (s.put ⟨24, 0, t.n.kids - 2, 0⟩).wait ⟨(t.kid 1).kid 0, ss ++ [(t.kid 1).n.a], s.out.length, 0⟩

def handZ (es : List Ef) (go : Tp → List ByteArray → Cs → Cs) (t : Tp) (ss : List ByteArray) (s : Cs) : Cs :=
  ((t.kids.drop 2).foldl (opZ es ss) (handB t ss (handA go t ss s))).lead s.out.length 2

def ifZ (go : Tp → List ByteArray → Cs → Cs) (t : Tp) (ss : List ByteArray) (s : Cs) : Cs :=
  let s1 := go (t.kid 0) ss s
  let s2 := go (t.kid 1) ss (s1.put ⟨10, 0, 0, 0⟩)
  let s3 := go (t.kid 2) ss ((s2.put ⟨11, 0, 0, 0⟩).lead s1.out.length 0)
  s3.lead s2.out.length 0

def caseZ (go : Tp → List ByteArray → Cs → Cs) (t : Tp) (ss : List ByteArray) (s : Cs) : Cs :=
  let s1 := go (t.kid 0) ss s
  let s2 := ((go (t.kid 2) (ss ++ [t.n.a, t.n.b]) (s1.put ⟨19, 0, 0, 0⟩)).put ⟨13, 0, 0, 0⟩).put ⟨13, 0, 0, 0⟩
  let s3 := go (t.kid 1) ss ((s2.put ⟨11, 0, 0, 0⟩).lead s1.out.length 0)
  s3.lead s2.out.length 0

def partZ (es : List Ef) : Nat → Tp → List ByteArray → Cs → Cs
  | 0, _, _, s => s
  | f + 1, t, ss, s =>
    if t.n.kind = 1 then s.put ⟨1, t.n.num, 0, 0⟩ else
    if t.n.kind = 2 then s.put ⟨2, t.n.num, 0, 0⟩ else
    if t.n.kind = 3 then s.put ⟨3, 0, 0, 0⟩ else
    if t.n.kind = 4 then s.put ⟨4, 0, 0, 0⟩ else
    if t.n.kind = 5 then s.put ⟨5, idxZ ss t.n.a, 0, 0⟩ else
    if t.n.kind = 6 then (s.put ⟨6, 0, 0, 0⟩).wait ⟨t.kid 0, ss ++ [t.n.a], s.out.length, 0⟩ else
    if t.n.kind = 8 then boundZ (partZ es f) (t.kid 1) (ss ++ [t.n.a]) (partZ es f (t.kid 0) ss s) else
    if t.n.kind = 9 then boundZ (partZ es f) (t.kid 1) (ss ++ [t.n.a]) ((s.put ⟨7, 0, 0, 0⟩).wait ⟨t.kid 0, ss ++ [t.n.a, t.n.b], s.out.length, 0⟩) else
    if t.n.kind = 10 then ifZ (partZ es f) t ss s else
    if t.n.kind = 20 then caseZ (partZ es f) t ss s else
    if t.n.kind = 23 ∨ t.n.kind = 24 then handZ es (partZ es f) t ss s else
    (t.kids.foldl (fun s c => partZ es f c ss s) s).put (lastZ es t.n)

/-- What is put off, of which so much is left. -/
def restZ (es : List Ef) : Nat → Nat → Cs → Cs
  | 0, _, s => s
  | m + 1, i, s => if i < s.later.length then
      let l := s.later.getD i ⟨default, [], 0, 0⟩
      restZ es m (i + 1) ((partZ es 400 l.t l.names (s.lead l.fr l.wh)).put ⟨9, 0, 0, 0⟩) else s

/-- The whole code. -/
def codeZ (es : List Ef) (n : Nd) (k : Fo) : List In := (restZ es 400 0 ((partZ es 400 ⟨n, k, 0⟩ [] ⟨[], []⟩).put ⟨0, 0, 0, 0⟩)).out

/- How trees stand in a list. -/
def headsZ (k : Fo) : Prop := ∀ t ∈ (kidsAt k 0).drop 1, t.n.kids = 1

def goodF : Fo → Prop
  | .none => True
  | .tree n k r => n.kids = k.count ∧ kidsOk n.kind n.kids = true ∧ (n.kind = 23 ∨ n.kind = 24 → headsZ k) ∧ goodF k ∧ goodF r

theorem goodF.wf : ∀ {f : Fo}, goodF f → f.wf
  | .none, _ => trivial
  | .tree _ _ _, h => ⟨h.1, h.2.2.2.1.wf, h.2.2.2.2.wf⟩

structure Good (t : Tp) : Prop where
  kids : t.n.kids = t.k.count
  own : kidsOk t.n.kind t.n.kids = true
  heads : t.n.kind = 23 ∨ t.n.kind = 24 → headsZ t.k
  good : goodF t.k

structure Stands (ns : List Nd) (t : Tp) : Prop extends Good t where
  drop : ∃ suf, ns.drop t.at_ = t.n :: (t.k.flat ++ suf)

theorem kidsAt_len : ∀ (f : Fo) (p : Nat), (kidsAt f p).length = f.count
  | .none, _ => rfl
  | .tree n k r, p => by simp [kidsAt, Fo.count, kidsAt_len r]

theorem kidsAt_sum : ∀ (f : Fo) (p : Nat), ((kidsAt f p).map Tp.size).sum = f.flat.length
  | .none, _ => rfl
  | .tree n k r, p => by
    simp only [kidsAt, Fo.flat, List.map_cons, List.sum_cons, kidsAt_sum r, List.length_cons, List.length_append, Tp.size]
    omega

theorem kidsAt_mem : ∀ (f : Fo) (p : Nat) (ns suf : List Nd), goodF f → ns.drop p = f.flat ++ suf → ∀ t ∈ kidsAt f p, Stands ns t
  | .none, p, ns, suf, _, _, t, h => by simp [kidsAt] at h
  | .tree n k r, p, ns, suf, hg, hd, t, h => by
    obtain ⟨h1, h2, h3, h4, h5⟩ := hg
    simp only [Fo.flat, List.cons_append, List.append_assoc] at hd
    rw [kidsAt, List.mem_cons] at h
    rcases h with rfl | h
    · exact ⟨⟨h1, h2, h3, h4⟩, ⟨_, hd⟩⟩
    · refine kidsAt_mem r _ ns suf h5 ?_ t h
      rw [show p + 1 + k.flat.length = p + (1 + k.flat.length) by omega, ← List.drop_drop, hd, Nat.add_comm 1, List.drop_succ_cons, List.drop_left]

theorem kidsAt_place : ∀ (f : Fo) (p q : Nat), (kidsAt f q).map (fun t => (t.n, t.k)) = (kidsAt f p).map (fun t => (t.n, t.k))
  | .none, _, _ => rfl
  | .tree n k r, p, q => by
    simp only [kidsAt, List.map_cons]
    rw [kidsAt_place r (p + 1 + k.flat.length)]

theorem Tp.kids_len (t : Tp) : t.kids.length = t.k.count := kidsAt_len _ _
theorem Tp.kids_sum (t : Tp) : (t.kids.map Tp.size).sum + 1 = t.size := by
  have := kidsAt_sum t.k (t.at_ + 1)
  unfold Tp.kids
  rw [this]
  rfl

theorem Stands.kids_mem {ns : List Nd} {t : Tp} (h : Stands ns t) : ∀ c ∈ t.kids, Stands ns c := by
  obtain ⟨suf, hd⟩ := h.drop
  refine kidsAt_mem t.k _ ns suf h.good ?_
  rw [← List.drop_drop, hd]
  rfl

theorem Tp.kid_mem {t : Tp} {i : Nat} (h : i < t.k.count) : t.kid i ∈ t.kids := getD_mem' (by rw [t.kids_len]; exact h)
where
  getD_mem' {l : List Tp} {k : Nat} (h : k < l.length) : l.getD k default ∈ l := by
    rw [show l.getD k default = l[k] by simp [List.getD, h]]
    exact List.getElem_mem h

theorem Stands.kid {ns : List Nd} {t : Tp} (h : Stands ns t) {i : Nat} (hi : i < t.k.count) : Stands ns (t.kid i) := h.kids_mem _ (Tp.kid_mem hi)

/-- A clause has one kid. -/
theorem Stands.head {ns : List Nd} {t : Tp} (h : Stands ns t) (hk : t.n.kind = 23 ∨ t.n.kind = 24) : ∀ c ∈ t.kids.drop 1, c.n.kids = 1 ∧ c.k.count = 1 := fun c hc => by
  have h1 := h.heads hk
  have hs := h.kids_mem c (List.mem_of_mem_drop hc)
  have e : ∃ c' ∈ (kidsAt t.k 0).drop 1, (c'.n, c'.k) = (c.n, c.k) := by
    have h2 := congrArg (List.drop 1) (kidsAt_place t.k 0 (t.at_ + 1))
    rw [← List.map_drop, ← List.map_drop] at h2
    have h3 : (c.n, c.k) ∈ ((kidsAt t.k (t.at_ + 1)).drop 1).map (fun t => (t.n, t.k)) := List.mem_map_of_mem (f := fun t : Tp => (t.n, t.k)) hc
    rw [h2, List.mem_map] at h3
    obtain ⟨c', h4, h5⟩ := h3
    exact ⟨c', h4, h5⟩
  obtain ⟨c', hc', e⟩ := e
  have h6 := h1 c' hc'
  simp only [Prod.mk.injEq] at e
  rw [e.1] at h6
  have h7 := hs.kids
  exact ⟨h6, by omega⟩

theorem role_two (pk : Int) (i : Nat) (h : pk = 23 ∨ pk = 24) (hi : 1 ≤ i) : role pk i = 1 ∨ role pk i = 2 := by
  unfold role
  rw [if_pos h]
  split <;> omega

theorem head_kids {m : Nd} {c : Nat} (h : headOk m c = true) (hc : c = 1 ∨ c = 2) (ho : ownOk m = true) : m.kids = 1 := by
  unfold headOk at h
  simp only [Bool.and_eq_true] at h
  unfold ownOk at ho
  simp only [Bool.and_eq_true] at ho
  have hk := ho.1
  rcases hc with rfl | rfl
  · have e : m.kind = 25 := by simpa using h.1.1
    rw [e] at hk
    exact of_decide_eq_true hk
  · have e : m.kind = 26 := by simpa using h.1.2
    rw [e] at hk
    exact of_decide_eq_true hk

theorem spec_heads : ∀ (f : Fo) (pk : Int) (i p : Nat) (ops : List ByteArray), (pk = 23 ∨ pk = 24) → (∀ m ∈ f.flat, ownOk m = true) → specKids f pk i ops = true → 1 ≤ i → ∀ t ∈ kidsAt f p, t.n.kids = 1
  | .none, pk, i, p, ops, _, _, _, _, t, h => by simp [kidsAt] at h
  | .tree n k r, pk, i, p, ops, hp, ho, hs, hi, t, h => by
    simp only [specKids, Bool.and_eq_true] at hs
    rw [kidsAt, List.mem_cons] at h
    rcases h with rfl | h
    · exact head_kids hs.1 (role_two pk i hp hi) (ho n (by simp [Fo.flat]))
    · have ho' : ∀ m ∈ r.flat, ownOk m = true := fun m hm => ho m (by simp [Fo.flat, hm])
      have h2 := hs.2.2
      split at h2
      · rw [Bool.and_eq_true] at h2
        exact spec_heads r pk (i + 1) _ _ hp ho' h2.2 (by omega) t h
      · exact spec_heads r pk (i + 1) _ _ hp ho' h2 (by omega) t h

theorem heads_of (k : Fo) (pk : Int) (hp : pk = 23 ∨ pk = 24) (ho : ∀ m ∈ k.flat, ownOk m = true) (hs : specKids k pk 0 [] = true) : headsZ k := by
  cases k with
  | none => exact fun t h => by simp [kidsAt] at h
  | tree n k r =>
    intro t h
    rw [kidsAt, List.drop_succ_cons, List.drop_zero] at h
    simp only [specKids, Bool.and_eq_true] at hs
    have h2 := hs.2.2
    have ho' : ∀ m ∈ r.flat, ownOk m = true := fun m hm => ho m (by simp [Fo.flat, hm])
    split at h2
    · rw [Bool.and_eq_true] at h2
      exact spec_heads r pk (0 + 1) _ _ hp ho' h2.2 (by omega) t h
    · exact spec_heads r pk (0 + 1) _ _ hp ho' h2 (by omega) t h

theorem good_of : ∀ (f : Fo) (pk : Int) (i : Nat) (ops : List ByteArray), f.wf → (∀ m ∈ f.flat, ownOk m = true) → specKids f pk i ops = true → goodF f
  | .none, _, _, _, _, _, _ => trivial
  | .tree n k r, pk, i, ops, hw, ho, hs => by
    simp only [specKids, Bool.and_eq_true] at hs
    have hk : ∀ m ∈ k.flat, ownOk m = true := fun m hm => ho m (by simp [Fo.flat, hm])
    have hr : ∀ m ∈ r.flat, ownOk m = true := fun m hm => ho m (by simp [Fo.flat, hm])
    have hn := ho n (by simp [Fo.flat])
    unfold ownOk at hn
    rw [Bool.and_eq_true] at hn
    refine ⟨hw.1, hn.1, fun h => heads_of k n.kind h hk hs.2.1, good_of k n.kind 0 [] hw.2.1 hk hs.2.1, ?_⟩
    have h2 := hs.2.2
    split at h2
    · rw [Bool.and_eq_true] at h2
      exact good_of r pk (i + 1) _ hw.2.2 hr h2.2
    · exact good_of r pk (i + 1) _ hw.2.2 hr h2

/-- A tree that is right stands. -/
theorem stands_of {ns : List Nd} {n : Nd} {k : Fo} (hA : SpecAns ns true) (h1 : ns = n :: k.flat) (h2 : n.kids = k.count) (h3 : k.wf) : Stands ns ⟨n, k, 0⟩ := by
  rcases hA with ⟨-, h⟩ | ⟨-, -, -, h⟩ | ⟨-, -, n', k', e1, e2, e3, hR⟩
  · cases h
  · cases h
  obtain ⟨rfl, rfl⟩ := tree_inj h1 h2 h3 e1 e2 e3
  have hR' := hR.symm
  rw [Bool.and_eq_true, Bool.and_eq_true] at hR'
  obtain ⟨ho, -, hs⟩ := hR'
  unfold specTree at hs
  rw [Bool.and_eq_true] at hs
  have ho' : ∀ m ∈ ns, ownOk m = true := fun m hm => List.all_eq_true.1 ho m hm
  have hn := ho' n' (by rw [e1]; simp)
  have hk : ∀ m ∈ k'.flat, ownOk m = true := fun m hm => ho' m (by rw [e1]; simp [hm])
  unfold ownOk at hn
  rw [Bool.and_eq_true] at hn
  exact ⟨⟨e2, hn.1, fun h => heads_of k' n'.kind h hk hs.2, good_of k' n'.kind 0 [] e3 hk hs.2⟩, ⟨[], by rw [e1]; simp⟩⟩
end Go.Proofs.YtegjdgiegnofhaaDoor

/- How much code a tree makes, and what is put off stands. -/
namespace Go.Proofs.YtegjdgiegnofhaaDoor
open Go.RowKit Go.Deep

def Cs.rest (s : Cs) : Nat := (s.later.map (fun l => l.t.size)).sum

/-- What was put off stands, its names are not too many, the instruction that leads to it is there. -/
def LOk (ns : List Nd) (K : Nat) (s : Cs) : Prop := ∀ l ∈ s.later, Stands ns l.t ∧ (l.names.length + 2 * l.t.size ≤ K ∧ (l.wh = 0 ∨ l.wh = 1)) ∧ l.fr < s.out.length

/-- So much more at most. -/
structure Rs (ns : List Nd) (K c z : Nat) (s s' : Cs) : Prop where
  cost : s'.out.length + 10 * s'.rest ≤ s.out.length + 10 * s.rest + c
  rest : s'.rest ≤ s.rest + z
  out : s.out.length ≤ s'.out.length
  len : s.later.length ≤ s'.later.length
  ok : LOk ns K s → LOk ns K s'
  pre : ∃ r, s'.later = s.later ++ r

theorem Rs.refl (ns : List Nd) (K : Nat) (s : Cs) : Rs ns K 0 0 s s := ⟨Nat.le_refl _, Nat.le_refl _, Nat.le_refl _, Nat.le_refl _, id, [], by simp⟩

theorem Rs.trans {ns : List Nd} {K c z c' z' : Nat} {s s' s'' : Cs} (h : Rs ns K c z s s') (h' : Rs ns K c' z' s' s'') : Rs ns K (c + c') (z + z') s s'' :=
  ⟨by have := h.cost; have := h'.cost; omega, by have := h.rest; have := h'.rest; omega, Nat.le_trans h.out h'.out, Nat.le_trans h.len h'.len, fun x => h'.ok (h.ok x), by
    obtain ⟨r, e⟩ := h.pre
    obtain ⟨r', e'⟩ := h'.pre
    exact ⟨r ++ r', by rw [e', e, List.append_assoc]⟩⟩

theorem Rs.mono {ns : List Nd} {K c z c' z' : Nat} {s s' : Cs} (h : Rs ns K c z s s') (hc : c ≤ c') (hz : z ≤ z') : Rs ns K c' z' s s' :=
  ⟨by have := h.cost; omega, by have := h.rest; omega, h.out, h.len, h.ok, h.pre⟩

theorem Rs.put (ns : List Nd) (K : Nat) (s : Cs) (i : In) : Rs ns K 1 0 s (s.put i) := by
  refine ⟨?_, Nat.le_refl _, ?_, Nat.le_refl _, fun h l hl => ?_, [], by simp [Cs.put]⟩
  · simp only [Cs.put, Cs.rest, List.length_append, List.length_singleton]; omega
  · simp only [Cs.put, List.length_append]; omega
  · obtain ⟨h1, h2, h3⟩ := h l hl
    refine ⟨h1, h2, ?_⟩
    simp only [Cs.put, List.length_append]
    omega

theorem lead_len (s : Cs) (fr wh : Nat) : (s.lead fr wh).out.length = s.out.length := by simp [Cs.lead]

theorem Rs.lead (ns : List Nd) (K : Nat) (s : Cs) (fr wh : Nat) : Rs ns K 0 0 s (s.lead fr wh) := by
  refine ⟨?_, Nat.le_refl _, by rw [lead_len]; exact Nat.le_refl _, Nat.le_refl _, fun h l hl => ?_, [], by simp [Cs.lead]⟩
  · rw [lead_len]; exact Nat.le_refl _
  · obtain ⟨h1, h2, h3⟩ := h l hl
    exact ⟨h1, h2, by rw [lead_len]; exact h3⟩

theorem Rs.wait {ns : List Nd} {K : Nat} {s : Cs} {l : Lt} (h1 : Stands ns l.t) (h2 : l.names.length + 2 * l.t.size ≤ K) (h3 : l.fr < s.out.length) (h4 : l.wh = 0 ∨ l.wh = 1 := by simp) : Rs ns K (10 * l.t.size) l.t.size s (s.wait l) := by
  refine ⟨?_, ?_, Nat.le_refl _, ?_, fun h l' hl => ?_, [l], rfl⟩
  · simp only [Cs.wait, Cs.rest, List.map_append, List.map_cons, List.map_nil, List.sum_append, List.sum_cons, List.sum_nil]; omega
  · simp only [Cs.wait, Cs.rest, List.map_append, List.map_cons, List.map_nil, List.sum_append, List.sum_cons, List.sum_nil]; omega
  · simp only [Cs.wait, List.length_append]; omega
  · simp only [Cs.wait, List.mem_append, List.mem_singleton] at hl
    rcases hl with hl | rfl
    · exact h l' hl
    · exact ⟨h1, ⟨h2, h4⟩, h3⟩

theorem kids_of (t : Tp) {c : Nat} (h : t.k.count = c) : t.kids.length = c := by rw [t.kids_len, h]

theorem kids1 {t : Tp} (h : t.k.count = 1) : t.kids = [t.kid 0] ∧ (t.kid 0).size + 1 = t.size := by
  have hl := kids_of t h
  have hs := t.kids_sum
  unfold Tp.kid
  match hk : t.kids, hl with
  | [a], _ => rw [hk] at hs; simp at hs ⊢; omega

theorem kids2 {t : Tp} (h : t.k.count = 2) : t.kids = [t.kid 0, t.kid 1] ∧ (t.kid 0).size + (t.kid 1).size + 1 = t.size := by
  have hl := kids_of t h
  have hs := t.kids_sum
  unfold Tp.kid
  match hk : t.kids, hl with
  | [a, b], _ => rw [hk] at hs; simp at hs ⊢; omega

theorem kids3 {t : Tp} (h : t.k.count = 3) : t.kids = [t.kid 0, t.kid 1, t.kid 2] ∧ (t.kid 0).size + (t.kid 1).size + (t.kid 2).size + 1 = t.size := by
  have hl := kids_of t h
  have hs := t.kids_sum
  unfold Tp.kid
  match hk : t.kids, hl with
  | [a, b, c], _ => rw [hk] at hs; simp at hs ⊢; omega

theorem kidsM {t : Tp} (h : 2 ≤ t.k.count) : t.kids = t.kid 0 :: t.kid 1 :: t.kids.drop 2 ∧ (t.kid 0).size + (t.kid 1).size + ((t.kids.drop 2).map Tp.size).sum + 1 = t.size := by
  have hl := t.kids_len
  have hs := t.kids_sum
  unfold Tp.kid
  match hk : t.kids with
  | [] => rw [hk] at hl; simp at hl; omega
  | [a] => rw [hk] at hl; simp at hl; omega
  | a :: b :: r => rw [hk] at hs; simp at hs ⊢; omega

theorem arity_at {t : Tp} (h : Good t) : arityZ t.n.kind ≠ -1 ∧ (arityZ t.n.kind = -2 → 2 ≤ t.k.count ∧ t.k.count ≤ 6) ∧ (arityZ t.n.kind ≠ -2 → (t.k.count : Int) = arityZ t.n.kind) := by
  have h1 := h.own
  have h2 := h.kids
  unfold kidsOk at h1
  split at h1
  · cases h1
  · rename_i e
    refine ⟨e, fun e2 => ?_, fun e2 => ?_⟩
    · rw [if_pos e2] at h1
      have := of_decide_eq_true h1
      omega
    · rw [if_neg e2] at h1
      have := of_decide_eq_true h1
      omega

theorem count_of {t : Tp} (h : Good t) {k : Int} (hk : t.n.kind = k) {c : Nat} (ha : arityZ k = (c : Int)) : t.k.count = c := by
  have h3 := (arity_at h).2.2
  rw [hk] at h3
  have := h3 (by omega)
  omega

theorem part1 {es : List Ef} {f : Nat} {t : Tp} {ss : List ByteArray} {s : Cs} (h : t.n.kind = 1) : partZ es (f + 1) t ss s = s.put ⟨1, t.n.num, 0, 0⟩ := by
  rw [partZ, if_pos h]

theorem part2 {es : List Ef} {f : Nat} {t : Tp} {ss : List ByteArray} {s : Cs} (h : t.n.kind = 2) : partZ es (f + 1) t ss s = s.put ⟨2, t.n.num, 0, 0⟩ := by
  rw [partZ, if_neg (by omega), if_pos h]

theorem part3 {es : List Ef} {f : Nat} {t : Tp} {ss : List ByteArray} {s : Cs} (h : t.n.kind = 3) : partZ es (f + 1) t ss s = s.put ⟨3, 0, 0, 0⟩ := by
  rw [partZ, if_neg (by omega), if_neg (by omega), if_pos h]

theorem part4 {es : List Ef} {f : Nat} {t : Tp} {ss : List ByteArray} {s : Cs} (h : t.n.kind = 4) : partZ es (f + 1) t ss s = s.put ⟨4, 0, 0, 0⟩ := by
  rw [partZ, if_neg (by omega), if_neg (by omega), if_neg (by omega), if_pos h]

theorem part5 {es : List Ef} {f : Nat} {t : Tp} {ss : List ByteArray} {s : Cs} (h : t.n.kind = 5) : partZ es (f + 1) t ss s = s.put ⟨5, idxZ ss t.n.a, 0, 0⟩ := by
  rw [partZ, if_neg (by omega), if_neg (by omega), if_neg (by omega), if_neg (by omega), if_pos h]

theorem part6 {es : List Ef} {f : Nat} {t : Tp} {ss : List ByteArray} {s : Cs} (h : t.n.kind = 6) : partZ es (f + 1) t ss s = (s.put ⟨6, 0, 0, 0⟩).wait ⟨t.kid 0, ss ++ [t.n.a], s.out.length, 0⟩ := by
  rw [partZ, if_neg (by omega), if_neg (by omega), if_neg (by omega), if_neg (by omega), if_neg (by omega), if_pos h]

theorem part8 {es : List Ef} {f : Nat} {t : Tp} {ss : List ByteArray} {s : Cs} (h : t.n.kind = 8) : partZ es (f + 1) t ss s = boundZ (partZ es f) (t.kid 1) (ss ++ [t.n.a]) (partZ es f (t.kid 0) ss s) := by
  rw [partZ, if_neg (by omega), if_neg (by omega), if_neg (by omega), if_neg (by omega), if_neg (by omega), if_neg (by omega), if_pos h]

theorem part9 {es : List Ef} {f : Nat} {t : Tp} {ss : List ByteArray} {s : Cs} (h : t.n.kind = 9) : partZ es (f + 1) t ss s = boundZ (partZ es f) (t.kid 1) (ss ++ [t.n.a]) ((s.put ⟨7, 0, 0, 0⟩).wait ⟨t.kid 0, ss ++ [t.n.a, t.n.b], s.out.length, 0⟩) := by
  rw [partZ, if_neg (by omega), if_neg (by omega), if_neg (by omega), if_neg (by omega), if_neg (by omega), if_neg (by omega), if_neg (by omega), if_pos h]

theorem part10 {es : List Ef} {f : Nat} {t : Tp} {ss : List ByteArray} {s : Cs} (h : t.n.kind = 10) : partZ es (f + 1) t ss s = ifZ (partZ es f) t ss s := by
  rw [partZ, if_neg (by omega), if_neg (by omega), if_neg (by omega), if_neg (by omega), if_neg (by omega), if_neg (by omega), if_neg (by omega), if_neg (by omega), if_pos h]

theorem part20 {es : List Ef} {f : Nat} {t : Tp} {ss : List ByteArray} {s : Cs} (h : t.n.kind = 20) : partZ es (f + 1) t ss s = caseZ (partZ es f) t ss s := by
  rw [partZ, if_neg (by omega), if_neg (by omega), if_neg (by omega), if_neg (by omega), if_neg (by omega), if_neg (by omega), if_neg (by omega), if_neg (by omega), if_neg (by omega), if_pos h]

theorem partH {es : List Ef} {f : Nat} {t : Tp} {ss : List ByteArray} {s : Cs} (h : t.n.kind = 23 ∨ t.n.kind = 24) : partZ es (f + 1) t ss s = handZ es (partZ es f) t ss s := by
  rw [partZ, if_neg (by omega), if_neg (by omega), if_neg (by omega), if_neg (by omega), if_neg (by omega), if_neg (by omega), if_neg (by omega), if_neg (by omega), if_neg (by omega), if_neg (by omega), if_pos h]

theorem partK {es : List Ef} {f : Nat} {t : Tp} {ss : List ByteArray} {s : Cs} (h1 : t.n.kind ≠ 1) (h2 : t.n.kind ≠ 2) (h3 : t.n.kind ≠ 3) (h4 : t.n.kind ≠ 4) (h5 : t.n.kind ≠ 5) (h6 : t.n.kind ≠ 6) (h8 : t.n.kind ≠ 8) (h9 : t.n.kind ≠ 9) (h10 : t.n.kind ≠ 10) (h20 : t.n.kind ≠ 20) (h23 : t.n.kind ≠ 23) (h24 : t.n.kind ≠ 24) : partZ es (f + 1) t ss s = (t.kids.foldl (fun s c => partZ es f c ss s) s).put (lastZ es t.n) := by
  rw [partZ, if_neg h1, if_neg h2, if_neg h3, if_neg h4, if_neg h5, if_neg h6, if_neg h8, if_neg h9, if_neg h10, if_neg h20, if_neg (by omega)]

section
variable {ns : List Nd} {K : Nat} {es : List Ef}

/-- What making a part costs. -/
def PartR (ns : List Nd) (K : Nat) (go : Tp → List ByteArray → Cs → Cs) (F : Nat) : Prop := ∀ t ss s, t.size ≤ F → Stands ns t → ss.length + 2 * t.size ≤ K → Rs ns K (10 * t.size - 1) (t.size - 1) s (go t ss s)

theorem Tp.size_pos (t : Tp) : 1 ≤ t.size := by unfold Tp.size; omega

theorem bound_r {go : Tp → List ByteArray → Cs → Cs} {F : Nat} (hgo : PartR ns K go F) {t : Tp} {ss : List ByteArray} (s : Cs) (h1 : t.size ≤ F) (h2 : Stands ns t) (h3 : ss.length + 2 * t.size ≤ K) : Rs ns K (10 * t.size + 1) (t.size - 1) s (boundZ go t ss s) :=
  (((Rs.put ns K s _).trans (hgo t ss _ h1 h2 h3)).trans (Rs.put ns K _ _)).mono (by have := t.size_pos; omega) (by omega)

theorem kids_r {go : Tp → List ByteArray → Cs → Cs} {F : Nat} (hgo : PartR ns K go F) {ss : List ByteArray} : ∀ (l : List Tp) (s : Cs), (∀ c ∈ l, c.size ≤ F ∧ Stands ns c ∧ ss.length + 2 * c.size ≤ K) → Rs ns K (10 * (l.map Tp.size).sum) ((l.map Tp.size).sum) s (l.foldl (fun s c => go c ss s) s)
  | [], s, _ => Rs.refl _ _ _
  | c :: l, s, h => by
    have hc := h c List.mem_cons_self
    refine ((hgo c ss s hc.1 hc.2.1 hc.2.2).trans (kids_r hgo l _ (fun x hx => h x (List.mem_cons_of_mem _ hx)))).mono ?_ ?_
    · simp only [List.map_cons, List.sum_cons]; omega
    · simp only [List.map_cons, List.sum_cons]; omega

theorem op_r {ss : List ByteArray} (s : Cs) (c : Tp) (h1 : c.k.count = 1) (h2 : Stands ns c) (h3 : ss.length + 2 * c.size ≤ K) : Rs ns K (10 * c.size) (c.size - 1) s (opZ es ss s c) := by
  obtain ⟨-, e⟩ := kids1 h1
  refine ((Rs.put ns K s _).trans (Rs.wait (l := ⟨c.kid 0, ss ++ [c.n.b, c.n.c], s.out.length, 1⟩) (h2.kid (by omega)) ?_ ?_)).mono ?_ ?_
  · simp only [List.length_append, List.length_cons, List.length_nil]; omega
  · simp [Cs.put]
  · show 1 + 10 * (c.kid 0).size ≤ _; omega
  · show 0 + (c.kid 0).size ≤ _; omega

theorem ops_r {ss : List ByteArray} : ∀ (l : List Tp) (s : Cs), (∀ c ∈ l, c.k.count = 1 ∧ Stands ns c ∧ ss.length + 2 * c.size ≤ K) → Rs ns K (10 * (l.map Tp.size).sum) ((l.map Tp.size).sum) s (l.foldl (opZ es ss) s)
  | [], s, _ => Rs.refl _ _ _
  | c :: l, s, h => by
    have hc := h c List.mem_cons_self
    refine ((op_r s c hc.1 hc.2.1 hc.2.2).trans (ops_r l _ (fun x hx => h x (List.mem_cons_of_mem _ hx)))).mono ?_ ?_
    · simp only [List.map_cons, List.sum_cons]; omega
    · simp only [List.map_cons, List.sum_cons]; omega

theorem sum_mem (l : List Tp) (c : Tp) (h : c ∈ l) : c.size ≤ (l.map Tp.size).sum := by
  induction l with
  | nil => simp at h
  | cons a l ih =>
    simp only [List.map_cons, List.sum_cons]
    rw [List.mem_cons] at h
    rcases h with rfl | h
    · omega
    · have := ih h; omega

theorem part_r : ∀ F, PartR ns K (partZ es F) F := by
  intro F
  induction F with
  | zero => intro t ss s h; have := t.size_pos; omega
  | succ F ih =>
    intro t ss s hF hs hK
    have hg := hs.toGood
    have hp := t.size_pos
    have one : ∀ i, Rs ns K (10 * t.size - 1) (t.size - 1) s (s.put i) := fun i => (Rs.put ns K s i).mono (by omega) (by omega)
    by_cases e : t.n.kind = 1
    · rw [part1 e]
      exact one _
    have n1 := e
    clear e
    by_cases e : t.n.kind = 2
    · rw [part2 e]
      exact one _
    have n2 := e
    clear e
    by_cases e : t.n.kind = 3
    · rw [part3 e]
      exact one _
    have n3 := e
    clear e
    by_cases e : t.n.kind = 4
    · rw [part4 e]
      exact one _
    have n4 := e
    clear e
    by_cases e : t.n.kind = 5
    · rw [part5 e]
      exact one _
    have n5 := e
    clear e
    by_cases e : t.n.kind = 6
    · rw [part6 e]
      obtain ⟨-, e1⟩ := kids1 (count_of hg e (c := 1) rfl)
      refine ((Rs.put ns K s _).trans (Rs.wait (l := ⟨t.kid 0, ss ++ [t.n.a], s.out.length, 0⟩) (hs.kid (by rw [count_of hg e (c := 1) rfl]; omega)) ?_ ?_)).mono ?_ ?_
      · simp only [List.length_append, List.length_cons, List.length_nil]; omega
      · simp [Cs.put]
      · show 1 + 10 * (t.kid 0).size ≤ _; omega
      · show 0 + (t.kid 0).size ≤ _; omega
    have n6 := e
    clear e
    by_cases e : t.n.kind = 8
    · rw [part8 e]
      have hc := count_of hg e (c := 2) rfl
      obtain ⟨-, e1⟩ := kids2 hc
      have p0 := (t.kid 0).size_pos
      have p1 := (t.kid 1).size_pos
      refine ((ih (t.kid 0) ss s (by omega) (hs.kid (by omega)) (by omega)).trans (bound_r ih _ (by omega) (hs.kid (by omega)) ?_)).mono (by omega) (by omega)
      simp only [List.length_append, List.length_cons, List.length_nil]; omega
    have n8 := e
    clear e
    by_cases e : t.n.kind = 9
    · rw [part9 e]
      have hc := count_of hg e (c := 2) rfl
      obtain ⟨-, e1⟩ := kids2 hc
      have p0 := (t.kid 0).size_pos
      have p1 := (t.kid 1).size_pos
      refine (((Rs.put ns K s _).trans (Rs.wait (l := ⟨t.kid 0, ss ++ [t.n.a, t.n.b], s.out.length, 0⟩) (hs.kid (by omega)) ?_ ?_)).trans (bound_r ih _ (by omega) (hs.kid (by omega)) ?_)).mono ?_ ?_
      · simp only [List.length_append, List.length_cons, List.length_nil]; omega
      · simp [Cs.put]
      · simp only [List.length_append, List.length_cons, List.length_nil]; omega
      · show 1 + 10 * (t.kid 0).size + _ ≤ _; omega
      · show 0 + (t.kid 0).size + _ ≤ _; omega
    have n9 := e
    clear e
    by_cases e : t.n.kind = 10
    · rw [part10 e]
      have hc := count_of hg e (c := 3) rfl
      obtain ⟨-, e1⟩ := kids3 hc
      have p0 := (t.kid 0).size_pos
      have p1 := (t.kid 1).size_pos
      have p2 := (t.kid 2).size_pos
      unfold ifZ
      exact ((((((ih (t.kid 0) ss s (by omega) (hs.kid (by omega)) (by omega)).trans (Rs.put ns K _ _)).trans (ih (t.kid 1) ss _ (by omega) (hs.kid (by omega)) (by omega))).trans (Rs.put ns K _ _)).trans (Rs.lead ns K _ _ _)).trans ((ih (t.kid 2) ss _ (by omega) (hs.kid (by omega)) (by omega)).trans (Rs.lead ns K _ _ _))).mono (by omega) (by omega)
    have n10 := e
    clear e
    by_cases e : t.n.kind = 20
    · rw [part20 e]
      have hc := count_of hg e (c := 3) rfl
      obtain ⟨-, e1⟩ := kids3 hc
      have p0 := (t.kid 0).size_pos
      have p1 := (t.kid 1).size_pos
      have p2 := (t.kid 2).size_pos
      have h3 : (ss ++ [t.n.a, t.n.b]).length + 2 * (t.kid 2).size ≤ K := by simp only [List.length_append, List.length_cons, List.length_nil]; omega
      unfold caseZ
      exact ((((((((ih (t.kid 0) ss s (by omega) (hs.kid (by omega)) (by omega)).trans (Rs.put ns K _ _)).trans (ih (t.kid 2) (ss ++ [t.n.a, t.n.b]) _ (by omega) (hs.kid (by omega)) h3)).trans (Rs.put ns K _ _)).trans (Rs.put ns K _ _)).trans (Rs.put ns K _ _)).trans (Rs.lead ns K _ _ _)).trans ((ih (t.kid 1) ss _ (by omega) (hs.kid (by omega)) (by omega)).trans (Rs.lead ns K _ _ _))).mono (by omega) (by omega)
    have n20 := e
    clear e
    by_cases e : t.n.kind = 23 ∨ t.n.kind = 24
    · rw [partH e]
      have hc : 2 ≤ t.k.count := by
        have := (arity_at hg).2.1 (by rcases e with e | e <;> rw [e] <;> rfl)
        exact this.1
      obtain ⟨e0, e1⟩ := kidsM hc
      have hh := hs.head e
      have hh1 : (t.kid 1).k.count = 1 := (hh (t.kid 1) (by rw [e0]; simp)).2
      obtain ⟨-, e2⟩ := kids1 hh1
      have p0 := (t.kid 0).size_pos
      have p1 := (t.kid 1).size_pos
      have r1 : Rs ns K (10 * (t.kid 0).size + 1) ((t.kid 0).size) s (handA (partZ es F) t ss s) := by
        unfold handA
        exact ((((Rs.put ns K s _).trans (ih (t.kid 0) ss _ (by omega) (hs.kid (by omega)) (by omega))).trans (Rs.put ns K _ _)).trans (Rs.lead ns K _ _ _)).mono (by omega) (by omega)
      have r2 : Rs ns K (10 * (t.kid 1).size) ((t.kid 1).size) (handA (partZ es F) t ss s) (handB t ss (handA (partZ es F) t ss s)) := by
        unfold handB
        refine ((Rs.put ns K _ _).trans (Rs.wait (l := ⟨(t.kid 1).kid 0, ss ++ [(t.kid 1).n.a], (handA (partZ es F) t ss s).out.length, 0⟩) ((hs.kid (by omega)).kid (by omega)) ?_ ?_)).mono ?_ ?_
        · simp only [List.length_append, List.length_cons, List.length_nil]; omega
        · simp [Cs.put]
        · show 1 + 10 * ((t.kid 1).kid 0).size ≤ _; omega
        · show 0 + ((t.kid 1).kid 0).size ≤ _; omega
      have r3 : Rs ns K _ _ _ ((t.kids.drop 2).foldl (opZ es ss) (handB t ss (handA (partZ es F) t ss s))) := ops_r (ns := ns) (K := K) (t.kids.drop 2) _ (fun c hc => by
        have h4 := sum_mem _ c hc
        refine ⟨(hh c ?_).2, hs.kids_mem c (List.mem_of_mem_drop hc), by omega⟩
        rw [show (2 : Nat) = 1 + 1 from rfl, ← List.drop_drop] at hc
        exact List.mem_of_mem_drop hc)
      unfold handZ
      exact (((r1.trans r2).trans r3).trans (Rs.lead ns K _ _ _)).mono (by omega) (by omega)
    · rw [partK n1 n2 n3 n4 n5 n6 n8 n9 n10 n20 (fun h => e (Or.inl h)) (fun h => e (Or.inr h))]
      have e1 := t.kids_sum
      refine ((kids_r ih t.kids s (fun c hc => ?_)).trans (Rs.put ns K _ _)).mono (by omega) (by omega)
      have h4 := sum_mem _ c hc
      exact ⟨by omega, hs.kids_mem c hc, by omega⟩
end
end Go.Proofs.YtegjdgiegnofhaaDoor
