/- Names that a tree makes known, those that stand free, and those that are named anew: in plain words. -/
import Derived.Test.YtegjdgiegnofhaaDoorPureForest
import Derived.Lib.ItoaLen
import Derived.Lib.SlicesCompact
import Derived.Test.YtegjdgiegnofhaaDoorKidsM
import Derived.Test.YtegjdgiegnofhaaDoorOwnRow
import Derived.Test.YtegjdgiegnofhaaDoorShelf
import Derived.Lib.SmallJoins
import Derived.Test.YtegjdgiegnofhaaDoorStg
import Derived.Maps.AppendAt
import Derived.Deep.Cut
import Derived.Test.YtegjdgiegnofhaaDoorTreeAll
import Derived.Sort.OwnSorted
namespace Go.Proofs.YtegjdgiegnofhaaDoor
open Go.RowKit

/-- Names that are known and what they are called now, the innermost first. -/
abbrev Sco := List (ByteArray × ByteArray)

def findS : Sco → ByteArray → Option ByteArray
  | [], _ => none
  | (x, y) :: r, s => if x = s then some y else findS r s

/-- The names that a node makes known in a kid. -/
def knownZ (n : Nd) (i : Nat) : List ByteArray :=
  if n.kind = 6 ∨ n.kind = 25 then [n.a]
  else if (n.kind = 8 ∧ i = 1) ∨ (n.kind = 9 ∧ i = 1) then [n.a]
  else if n.kind = 9 ∨ (n.kind = 20 ∧ i = 2) then [n.a, n.b]
  else if n.kind = 26 then [n.b, n.c]
  else []

theorem knownZ_len (n : Nd) (i : Nat) : (knownZ n i).length ≤ 2 := by
  unfold knownZ
  repeat' split
  all_goals simp

/-- Kids of the same kind make as many names known. -/
theorem knownZ_same {n m : Nd} (h : n.kind = m.kind) (i : Nat) : (knownZ n i).length = (knownZ m i).length := by
  unfold knownZ
  rw [h]
  repeat' split
  all_goals rfl

/-- The name that is made so many names behind the first. -/
def freshZ (m : Nat) : ByteArray := ⟨(118 :: Lib.itoa (m : Int)).toArray⟩

/-- How many names a node makes anew. -/
def makesZ (k : Int) : Nat := if k = 6 ∨ k = 8 ∨ k = 25 then 1 else if k = 9 ∨ k = 20 ∨ k = 26 then 2 else 0

/-- A node with its names named anew. -/
def renZ (n : Nd) (sc : Sco) (made : Nat) : Nd :=
  if n.kind = 5 then { n with a := (findS sc n.a).getD ⟨#[]⟩ }
  else if n.kind = 6 ∨ n.kind = 8 ∨ n.kind = 25 then { n with a := freshZ made }
  else if n.kind = 9 ∨ n.kind = 20 then { n with a := freshZ made, b := freshZ (made + 1) }
  else if n.kind = 26 then { n with b := freshZ made, c := freshZ (made + 1) }
  else n

theorem renZ_kind (n : Nd) (sc : Sco) (made : Nat) : (renZ n sc made).kind = n.kind := by
  unfold renZ
  repeat' split
  all_goals rfl

/-- The name that is found free at a node. -/
def lostZ (n : Nd) (sc : Sco) : List ByteArray := if n.kind = 5 ∧ findS sc n.a = none then [n.a] else []

/-- What the walk has: the nodes named anew, the names found free, how many were made. -/
structure Wst where
  plain : List Nd
  free : List ByteArray
  made : Nat

def stepW (n : Nd) (sc : Sco) (s : Wst) : Wst := ⟨s.plain ++ [renZ n sc s.made], s.free ++ lostZ n sc, s.made + makesZ n.kind⟩

/-- The names known in a kid. -/
def openS (old new : Nd) (i : Nat) (sc : Sco) : Sco := ((knownZ old i).zip (knownZ new i)).foldl (fun s p => p :: s) sc

/-- The kids of a node from the one at i on. -/
def kidsW (old new : Nd) : Nat → Fo → Sco → Wst → Wst
  | _, .none, _, s => s
  | i, .tree n k r, sc, s =>
    kidsW old new (i + 1) r sc (kidsW n (renZ n (openS old new i sc) s.made) 0 k (openS old new i sc) (stepW n (openS old new i sc) s))

/-- A tree. -/
def walkW (n : Nd) (k : Fo) (sc : Sco) (s : Wst) : Wst := kidsW n (renZ n sc s.made) 0 k sc (stepW n sc s)

theorem kidsW_plain (old new : Nd) : ∀ (f : Fo) (i : Nat) (sc : Sco) (s : Wst), (kidsW old new i f sc s).plain.length = s.plain.length + f.flat.length ∧ (kidsW old new i f sc s).free.length ≤ s.free.length + f.flat.length ∧ (kidsW old new i f sc s).made ≤ s.made + 2 * f.flat.length := by
  intro f
  induction f generalizing old new with
  | none =>
    intro i sc s
    simp [kidsW, Fo.flat]
  | tree n k r ihk ihr =>
    intro i sc s
    have h1 := ihk n (renZ n (openS old new i sc) s.made) 0 (openS old new i sc) (stepW n (openS old new i sc) s)
    have h2 := ihr old new (i + 1) sc (kidsW n (renZ n (openS old new i sc) s.made) 0 k (openS old new i sc) (stepW n (openS old new i sc) s))
    have hm : makesZ n.kind ≤ 2 := by
      unfold makesZ
      repeat' split
      all_goals omega
    have hf : (lostZ n (openS old new i sc)).length ≤ 1 := by
      unfold lostZ
      split <;> simp
    have hs1 : (stepW n (openS old new i sc) s).plain.length = s.plain.length + 1 := by simp [stepW]
    have hs2 : (stepW n (openS old new i sc) s).free.length ≤ s.free.length + 1 := by simp only [stepW, List.length_append]; omega
    have hs3 : (stepW n (openS old new i sc) s).made ≤ s.made + 2 := by simp only [stepW]; omega
    simp only [kidsW, Fo.flat, List.length_cons, List.length_append]
    omega
end Go.Proofs.YtegjdgiegnofhaaDoor

/- Names put where they belong, one behind the other, are those names sorted, each once. -/
namespace Go.Proofs.YtegjdgiegnofhaaDoor
open Go.RowKit

abbrev Tx := List UInt8

/-- A name is put where it belongs. -/
def insL : List Tx → Tx → List Tx
  | [], s => [s]
  | x :: r, s => if s < x then s :: x :: r else x :: insL r s

def addL (l : List Tx) (s : Tx) : List Tx := if s ∈ l then l else insL l s

theorem mem_insL (s y : Tx) : ∀ l : List Tx, y ∈ insL l s ↔ y = s ∨ y ∈ l
  | [] => by simp [insL]
  | x :: r => by
    unfold insL
    split
    · simp
    · rw [List.mem_cons, mem_insL s y r, List.mem_cons]
      constructor
      · rintro (h | h | h)
        · exact Or.inr (Or.inl h)
        · exact Or.inl h
        · exact Or.inr (Or.inr h)
      · rintro (h | h | h)
        · exact Or.inr (Or.inl h)
        · exact Or.inl h
        · exact Or.inr (Or.inr h)

theorem mem_addL (l : List Tx) (s y : Tx) : y ∈ addL l s ↔ y = s ∨ y ∈ l := by
  unfold addL
  split
  · rename_i h
    constructor
    · exact Or.inr
    · rintro (rfl | h')
      · exact h
      · exact h'
  · exact mem_insL s y l

theorem lt_of_ne {a b : Tx} (h : ¬ a < b) (hne : a ≠ b) : b < a := by
  rcases Classical.em (b < a) with h' | h'
  · exact h'
  · exact absurd (List.le_antisymm (List.not_lt.1 h') (List.not_lt.1 h)) hne

theorem insL_sorted (s : Tx) : ∀ l : List Tx, l.Pairwise (· < ·) → s ∉ l → (insL l s).Pairwise (· < ·)
  | [], _, _ => by simp [insL]
  | x :: r, h, hn => by
    obtain ⟨h1, h2⟩ := List.pairwise_cons.1 h
    unfold insL
    split
    · rename_i hs
      refine List.pairwise_cons.2 ⟨fun y hy => ?_, h⟩
      rcases List.mem_cons.1 hy with rfl | hy
      · exact hs
      · exact List.lt_trans hs (h1 y hy)
    · rename_i hs
      have hx : x < s := lt_of_ne hs (fun e => hn (e ▸ List.mem_cons_self))
      refine List.pairwise_cons.2 ⟨fun y hy => ?_, insL_sorted s r h2 (fun h' => hn (List.mem_cons_of_mem _ h'))⟩
      rcases (mem_insL s y r).1 hy with rfl | hy
      · exact hx
      · exact h1 y hy

theorem addL_sorted {l : List Tx} (h : l.Pairwise (· < ·)) (s : Tx) : (addL l s).Pairwise (· < ·) := by
  unfold addL
  split
  · exact h
  · rename_i hn
    exact insL_sorted s l h hn

theorem fold_sorted : ∀ (xs l : List Tx), l.Pairwise (· < ·) → (xs.foldl addL l).Pairwise (· < ·) ∧ ∀ y, y ∈ xs.foldl addL l ↔ y ∈ xs ∨ y ∈ l
  | [], l, h => ⟨h, fun y => by simp⟩
  | x :: xs, l, h => by
    obtain ⟨h1, h2⟩ := fold_sorted xs (addL l x) (addL_sorted h x)
    refine ⟨h1, fun y => ?_⟩
    rw [List.foldl_cons, h2 y, mem_addL, List.mem_cons]
    constructor
    · rintro (h | h | h)
      · exact Or.inl (Or.inr h)
      · exact Or.inl (Or.inl h)
      · exact Or.inr h
    · rintro ((h | h) | h)
      · exact Or.inr (Or.inl h)
      · exact Or.inl h
      · exact Or.inr (Or.inr h)

/-- Two lists that ascend and hold the same are one. -/
theorem sorted_one : ∀ (l m : List Tx), l.Pairwise (· < ·) → m.Pairwise (· < ·) → (∀ y, y ∈ l ↔ y ∈ m) → l = m
  | [], [], _, _, _ => rfl
  | [], y :: m, _, _, h => by
    have := (h y).2 List.mem_cons_self
    cases this
  | x :: l, [], _, _, h => by
    have := (h x).1 List.mem_cons_self
    cases this
  | x :: l, y :: m, hl, hm, h => by
    obtain ⟨l1, l2⟩ := List.pairwise_cons.1 hl
    obtain ⟨m1, m2⟩ := List.pairwise_cons.1 hm
    have hxy : x = y := by
      rcases List.mem_cons.1 ((h x).1 List.mem_cons_self) with e | e
      · exact e
      · rcases List.mem_cons.1 ((h y).2 List.mem_cons_self) with e' | e'
        · exact e'.symm
        · exact absurd (List.lt_trans (m1 x e) (l1 y e')) (List.lt_irrefl _)
    subst hxy
    congr 1
    refine sorted_one l m l2 m2 (fun z => ⟨fun hz => ?_, fun hz => ?_⟩)
    · rcases List.mem_cons.1 ((h z).1 (List.mem_cons_of_mem _ hz)) with rfl | e
      · exact absurd (l1 z hz) (List.lt_irrefl _)
      · exact e
    · rcases List.mem_cons.1 ((h z).2 (List.mem_cons_of_mem _ hz)) with rfl | e
      · exact absurd (m1 z hz) (List.lt_irrefl _)
      · exact e

theorem compact_upTo (d : Array Tx) (hs : ∀ i j, i ≤ j → j < d.size → d[i]! ≤ d[j]!) : ∀ m, m ≤ d.size → (Lib.compactUpTo d m).Pairwise (· < ·) ∧ (∀ x, x ∈ Lib.compactUpTo d m ↔ ∃ j, j < m ∧ d[j]! = x)
  | 0, _ => ⟨by simp [Lib.compactUpTo], fun x => by simp [Lib.compactUpTo]⟩
  | m + 1, hm => by
    obtain ⟨h1, h2⟩ := compact_upTo d hs m (by omega)
    rw [Lib.compactUpTo_succ]
    by_cases hk : Lib.keeps d m = true
    · rw [if_pos hk]
      have hk' : m = 0 ∨ d[m]! ≠ d[m - 1]! := of_decide_eq_true hk
      refine ⟨List.pairwise_append.2 ⟨h1, by simp, fun x hx y hy => ?_⟩, fun x => ?_⟩
      · rw [List.mem_singleton] at hy
        subst hy
        obtain ⟨j, hj, rfl⟩ := (h2 x).1 hx
        have hne := hk'.resolve_left (by omega)
        have a1 : d[j]! ≤ d[m - 1]! := hs j (m - 1) (by omega) (by omega)
        have a2 : d[m - 1]! ≤ d[m]! := hs (m - 1) m (by omega) (by omega)
        refine lt_of_ne (List.not_lt.2 (List.le_trans a1 a2)) (fun e => ?_)
        rw [← e] at a1
        exact hne (List.le_antisymm a1 a2)
      · rw [List.mem_append, h2 x, List.mem_singleton]
        constructor
        · rintro (⟨j, hj, e⟩ | rfl)
          · exact ⟨j, by omega, e⟩
          · exact ⟨m, by omega, rfl⟩
        · rintro ⟨j, hj, e⟩
          by_cases hjm : j = m
          · subst hjm
            exact Or.inr e.symm
          · exact Or.inl ⟨j, by omega, e⟩
    · rw [if_neg hk, List.append_nil]
      have hk' : ¬ (m = 0 ∨ d[m]! ≠ d[m - 1]!) := fun h => hk (decide_eq_true h)
      refine ⟨h1, fun x => ?_⟩
      rw [h2 x]
      constructor
      · rintro ⟨j, hj, e⟩
        exact ⟨j, by omega, e⟩
      · rintro ⟨j, hj, e⟩
        by_cases hjm : j = m
        · subst hjm
          have h3 : d[j]! = d[j - 1]! := Classical.byContradiction (fun h => hk' (Or.inr h))
          exact ⟨j - 1, by omega, by rw [← h3]; exact e⟩
        · exact ⟨j, by omega, e⟩

theorem free_same (l : List Tx) : Lib.compact (l.mergeSort (fun x y => decide (x ≤ y))) = l.foldl addL [] := by
  obtain ⟨h1, h2⟩ := fold_sorted l [] List.Pairwise.nil
  have hp : (l.mergeSort (fun x y => decide (x ≤ y))).Pairwise (fun a b => decide (a ≤ b) = true) := List.pairwise_mergeSort (le := fun x y => decide (x ≤ y)) (fun a b c h h' => decide_eq_true (List.le_trans (of_decide_eq_true h) (of_decide_eq_true h'))) (fun a b => by
    rcases List.le_total a b with h | h
    · rw [decide_eq_true h, Bool.true_or]
    · rw [decide_eq_true h, Bool.or_true]) l
  generalize hms : l.mergeSort (fun x y => decide (x ≤ y)) = ms at *
  have hmem : ∀ y, y ∈ ms ↔ y ∈ l := fun y => by rw [← hms]; exact List.mem_mergeSort
  have hs : ∀ i j, i ≤ j → j < ms.toArray.size → ms.toArray[i]! ≤ ms.toArray[j]! := fun i j hij hj => by
    have hj' : j < ms.length := by simpa using hj
    have e : ∀ k (hk : k < ms.length), ms.toArray[k]! = ms[k] := fun k hk => by simp [hk]
    rw [e i (by omega), e j hj']
    by_cases hij' : i = j
    · subst hij'
      exact List.not_lt.1 (List.lt_irrefl _)
    · exact of_decide_eq_true (List.pairwise_iff_getElem.1 hp i j (by omega) hj' (by omega))
  obtain ⟨c1, c2⟩ := compact_upTo ms.toArray hs ms.length (by simp)
  refine sorted_one _ _ c1 h1 (fun y => ?_)
  unfold Lib.compact
  rw [c2 y, h2 y, ← hmem y]
  constructor
  · rintro ⟨j, hj, rfl⟩
    exact Or.inl (by simp [hj])
  · rintro (h | h)
    · obtain ⟨j, hj, rfl⟩ := List.getElem_of_mem h
      exact ⟨j, hj, by simp [hj]⟩
    · cases h
end Go.Proofs.YtegjdgiegnofhaaDoor

/- What the namer keeps in memory: the nodes named anew, the names found free; scopes. -/
namespace Go.Proofs.YtegjdgiegnofhaaDoor
open Go.RowKit Go.Deep

/-- A row moved, or it did not. -/
def Movd (W : World) (v v' : Value) : Prop := v'.ownBlock = v.ownBlock ∨ ∃ g, v'.ownBlock = some g ∧ W.heap.size ≤ g

theorem Movd.trans {W W' : World} {a b c : Value} (hs : W.heap.size ≤ W'.heap.size) (h : Movd W a b) (h' : Movd W' b c) : Movd W a c := by
  rcases h' with h' | ⟨g, h', hg⟩
  · rcases h with h | ⟨g, h, hg⟩
    · exact Or.inl (h'.trans h)
    · exact Or.inr ⟨g, h'.trans h, hg⟩
  · exact Or.inr ⟨g, h', Nat.le_trans hs hg⟩

theorem Movd.not {W : World} {a b : Value} (h : Movd W a b) {q : Nat} (hq : q < W.heap.size) (hn : a.ownBlock ≠ some q) : b.ownBlock ≠ some q := by
  intro e
  rcases h with h | ⟨g, h, hg⟩
  · exact hn (h.symm.trans e)
  · rw [h] at e
    cases e
    omega

/-- What the namer's functions leave as it was. -/
structure Nfr (Nb : Nat) (vp vf : Value) (W W' : World) : Prop where
  os : W'.os = W.os
  tape : W'.tape = W.tape
  output : W'.output = W.output
  size : W.heap.size ≤ W'.heap.size
  block : ∀ q, q < W.heap.size → q ≠ Nb → vp.ownBlock ≠ some q → vf.ownBlock ≠ some q → W'.heap[q]? = W.heap[q]?

theorem Nfr.of_below {Nb : Nat} {vp vf : Value} {W W' : World} (h : Below W.heap.size W W') : Nfr Nb vp vf W W' := ⟨h.os, h.tape, h.output, h.size, fun q hq _ _ _ => h.block q hq⟩

theorem Nfr.trans {Nb : Nat} {vp vf vp' vf' : Value} {W W' W'' : World} (h : Nfr Nb vp vf W W') (hp : Movd W vp vp') (hf : Movd W vf vf') (h' : Nfr Nb vp' vf' W' W'') : Nfr Nb vp vf W W'' :=
  ⟨h'.os.trans h.os, h'.tape.trans h.tape, h'.output.trans h.output, Nat.le_trans h.size h'.size, fun q hq h1 h2 h3 => (h'.block q (Nat.lt_of_lt_of_le hq h.size) h1 (hp.not hq h2) (hf.not hq h3)).trans (h.block q hq h1 h2 h3)⟩

/-- The cells of nodes in a row. -/
def ndRow (ns : List Nd) : List Value := ns.flatMap fun n => [.int .i64 n.kind, .int .i64 n.num, .string n.a, .string n.b, .string n.c, .int .i64 n.kids]

theorem ndRow_snoc (ns : List Nd) (n : Nd) : ndRow (ns ++ [n]) = ndRow ns ++ [.int .i64 n.kind, .int .i64 n.num, .string n.a, .string n.b, .string n.c, .int .i64 n.kids] := by
  unfold ndRow
  rw [List.flatMap_append]
  rfl

def strRow (ss : List ByteArray) : List Value := ss.map fun s => .string s

theorem strRow_snoc (ss : List ByteArray) (s : ByteArray) : strRow (ss ++ [s]) = strRow ss ++ [.string s] := by
  unfold strRow
  rw [List.map_append]
  rfl

theorem own_type {W : World} {B : Nat} {e : TypeId} {sz : Nat} {v : Value} {n : Nat} {xs : List Value} (h : W.ownsRow B e sz v n xs) {g : Nat} (hg : v.ownBlock = some g) : B ≤ g ∧ ∃ cur, W.heap[g]? = some (.cells cur e) := by
  obtain ⟨-, ⟨rfl, h0⟩ | ⟨g', cap, cur, rfl, hB, hc, -⟩⟩ := h
  · simp [Value.ownBlock] at hg
  · simp [Value.ownBlock] at hg
    subst hg
    exact ⟨hB, cur, hc⟩

theorem own_slice {W : World} {B : Nat} {e : TypeId} {sz : Nat} {v : Value} {n : Nat} {xs : List Value} (h : W.ownsRow B e sz v n xs) : ∃ ad c, v = .slice ad n c := by
  obtain ⟨-, ⟨rfl, h0⟩ | ⟨g', cap, cur, rfl, -⟩⟩ := h
  · exact ⟨none, 0, by rw [h0]⟩
  · exact ⟨_, _, rfl⟩

theorem own_same {W W' : World} {B : Nat} {e : TypeId} {sz : Nat} {v : Value} {n : Nat} {xs : List Value} (h : W.ownsRow B e sz v n xs) (he : ∀ g, v.ownBlock = some g → W'.heap[g]? = W.heap[g]?) : W'.ownsRow B e sz v n xs := by
  obtain ⟨h0, ⟨rfl, h1⟩ | ⟨g, cap, cur, rfl, hB, hc, hr⟩⟩ := h
  · exact ⟨h0, Or.inl ⟨rfl, h1⟩⟩
  · exact ⟨h0, Or.inr ⟨g, cap, cur, rfl, hB, (he g (by simp [Value.ownBlock])).trans hc, hr⟩⟩

/-- The names of the walk are not many. -/
structure Wsm (s : Wst) : Prop where
  plain : s.plain.length ≤ 90000
  free : s.free.length ≤ 90000
  made : s.made ≤ 90000
end Go.Proofs.YtegjdgiegnofhaaDoor

/- The namer's small functions: a scope around another, what a name stands for, which names a node makes known, a name made anew. -/
namespace Go.Proofs.YtegjdgiegnofhaaDoor
open Go.RowKit Go.Deep

/-- The table that numbers are written by. -/
structure Laid (w : World) : Prop where
  pows : Lib.TabIs Tryd.prog w "internal/strconv.uint64pow10" .u64 Lib.pow10Tab

theorem slice_lit (w : World) (o1 : Obj) (ss : List ByteArray) : SliceOf w.heap.size ((w.alloc o1).alloc (.cells (strRow ss).toArray 9)) (.slice (some ⟨w.heap.size + 1, 0, none⟩) (strRow ss).length (strRow ss).length) (strRow ss) := row_new w o1 (strRow ss) 9

theorem known_none (w : World) (o1 : Obj) : SliceOf w.heap.size (w.alloc o1) (.slice none 0 0) (strRow []) := Or.inl ⟨rfl, none, 0, rfl⟩

theorem one_new' (w : World) (o1 : Obj) : Below w.heap.size w (w.alloc o1) := (Below.refl _ _).alloc (Nat.le_refl _) _

/-- How far a scope reaches, for the loop. -/
def scoLen : Nat → World → Value → Nat
  | 0, _, _ => 0
  | f + 1, W, .pointer (some a) => (match W.cell? ⟨a.block, 2, none⟩ with
    | some v => 1 + scoLen f W v
    | none => 0)
  | _ + 1, _, _ => 0

theorem str_eq (x s : ByteArray) : (x.toList == s.toList) = decide (x = s) := by
  rw [ByteArray.toList_eq, ByteArray.toList_eq]
  by_cases h : x = s
  · subst h
    simp
  · rw [decide_eq_false h]
    rw [beq_eq_false_iff_ne]
    intro e
    exact h (by cases x; cases s; simp_all)

end Go.Proofs.YtegjdgiegnofhaaDoor

/- The namer makes names anew and gives a node its new names. -/
namespace Go.Proofs.YtegjdgiegnofhaaDoor
open Go.RowKit Go.Deep

theorem grow_below (w : World) (k : Nat) (os : Array Obj) : Below w.heap.size w (Go.Sort.grow (w.drewN k) os) :=
  ⟨rfl, rfl, rfl, by rw [Go.Sort.size_grow]; exact Nat.le_add_right _ _, fun j hj => by rw [Go.Sort.heap_grow_old (w.drewN k) os hj]; rfl⟩

theorem itoa_calls (n : Int) (h0 : 0 ≤ n) (h1 : n ≤ 1000000) (w : World) (hL : Laid w) :
    Calls Tryd.prog 13 #[.int .i64 n] w fun e w' => e = .returned (.string ⟨(Lib.itoa n).toArray⟩) ∧ Below w.heap.size w w' := by
  refine (Tryd.strconv_Itoa n (by omega) (by omega) w hL.pows).mono ?_
  rintro e w' ⟨rfl, k, os, rfl⟩
  exact ⟨rfl, grow_below w k os⟩

theorem bytes_append (a b : List UInt8) : (⟨a.toArray⟩ : ByteArray) ++ ⟨b.toArray⟩ = ⟨(a ++ b).toArray⟩ := by
  apply ByteArray.ext
  simp

theorem v_append (l : List UInt8) : (⟨#[118]⟩ : ByteArray) ++ ⟨l.toArray⟩ = ⟨(118 :: l).toArray⟩ := bytes_append [118] l

/-- A box of a node. -/
theorem box6_set {w : World} {b : Nat} {t : TypeId} {x0 x1 x2 x3 x4 x5 : Value} (h : w.heap[b]? = some (.cells #[x0, x1, x2, x3, x4, x5] t)) (v : Value) :
    (w.setCell ⟨b, 2, none⟩ v).heap[b]? = some (.cells #[x0, x1, v, x3, x4, x5] t) ∧ (w.setCell ⟨b, 3, none⟩ v).heap[b]? = some (.cells #[x0, x1, x2, v, x4, x5] t) ∧ (w.setCell ⟨b, 4, none⟩ v).heap[b]? = some (.cells #[x0, x1, x2, x3, v, x5] t) := by
  refine ⟨?_, ?_, ?_⟩ <;> simp [World.setCell, Array.getElem?_modify, h]

end Go.Proofs.YtegjdgiegnofhaaDoor

/- The namer gives a node its new names. -/
namespace Go.Proofs.YtegjdgiegnofhaaDoor
open Go.RowKit Go.Deep

/-- Two new blocks: a node's box, and one for the answer. -/
theorem two_boxes (W : World) (n : Nd) : ∃ X, (W.alloc (.cells #[.int .i64 n.kind, .int .i64 n.num, .string n.a, .string n.b, .string n.c, .int .i64 n.kids] 90)).alloc (.cells #[.int .i64 0, .int .i64 0, .string ⟨#[]⟩, .string ⟨#[]⟩, .string ⟨#[]⟩, .int .i64 0] 90) = X ∧ X.heap[W.heap.size]? = some (.cells #[.int .i64 n.kind, .int .i64 n.num, .string n.a, .string n.b, .string n.c, .int .i64 n.kids] 90) ∧ X.heap[W.heap.size + 1]? = some (.cells #[.int .i64 0, .int .i64 0, .string ⟨#[]⟩, .string ⟨#[]⟩, .string ⟨#[]⟩, .int .i64 0] 90) ∧ Below W.heap.size W X := by
  refine ⟨_, rfl, ?_, ?_, ((Below.refl _ W).alloc (Nat.le_refl _) _).alloc (by simp) _⟩
  · rw [Below.heap_alloc _ _ _ (by simp)]
    exact (MapKept.heap_alloc W _).1
  · have e := (MapKept.heap_alloc (W.alloc (.cells #[.int .i64 n.kind, .int .i64 n.num, .string n.a, .string n.b, .string n.c, .int .i64 n.kids] 90)) (.cells #[.int .i64 0, .int .i64 0, .string ⟨#[]⟩, .string ⟨#[]⟩, .string ⟨#[]⟩, .int .i64 0] 90)).1
    rwa [World.size_alloc] at e

theorem box6_all {w : World} {b : Nat} {t : TypeId} {x0 x1 x2 x3 x4 x5 : Value} (h : w.heap[b]? = some (.cells #[x0, x1, x2, x3, x4, x5] t)) (v0 v1 v2 v3 v4 v5 : Value) :
    ((((((w.setCell ⟨b, 0, none⟩ v0).setCell ⟨b, 1, none⟩ v1).setCell ⟨b, 2, none⟩ v2).setCell ⟨b, 3, none⟩ v3).setCell ⟨b, 4, none⟩ v4).setCell ⟨b, 5, none⟩ v5).heap[b]? = some (.cells #[v0, v1, v2, v3, v4, v5] t) := by
  simp [World.setCell, Array.getElem?_modify, h]

end Go.Proofs.YtegjdgiegnofhaaDoor

/- The namer's walk over a form. -/
namespace Go.Proofs.YtegjdgiegnofhaaDoor
open Go.RowKit Go.Deep

theorem info_nd : (Tryd.prog.info? 90).map (fun i => (i.zero, i.size, i.bytes)) = some (some (.agg #[.int .i64 0, .int .i64 0, .string ⟨#[]⟩, .string ⟨#[]⟩, .string ⟨#[]⟩, .int .i64 0]), 6, 72) := by kernel_rfl

/-- A node that its form keeps whole. -/
def Whole (n : Nd) : Prop := bareZ n = { n with kids := 0 } ∧ n.a.size ≤ 281474976710656

theorem node6_set {w : World} {b : Nat} {t : TypeId} {x0 x1 x2 x3 x4 x5 : Value} (h : w.heap[b]? = some (.cells #[x0, x1, x2, x3, x4, x5] t)) (v : Value) : (w.setCell ⟨b, 5, none⟩ v).heap[b]? = some (.cells #[x0, x1, x2, x3, x4, v] t) := by
  simp [World.setCell, Array.getElem?_modify, h]

theorem sliceOf_len {B : Nat} {w : World} {sv : Value} {us : List Value} (h : SliceOf B w sv us) : ∃ ad c, sv = .slice ad us.length c := by
  rcases h with ⟨rfl, a, c, rfl⟩ | ⟨g, o, cap, rfl, -⟩
  · exact ⟨a, c, rfl⟩
  · exact ⟨_, _, rfl⟩

end Go.Proofs.YtegjdgiegnofhaaDoor

/- The namer's walk over a form is the plain one. -/
namespace Go.Proofs.YtegjdgiegnofhaaDoor
open Go.RowKit Go.Deep

/-- There is room for so many nodes more. -/
structure Room (c : Nat) (s : Wst) : Prop where
  plain : s.plain.length + 2 * c ≤ 90000
  free : s.free.length + 2 * c ≤ 90000
  made : s.made + 2 * c ≤ 90000

theorem Room.small {c : Nat} {s : Wst} (h : Room c s) : Wsm s := ⟨by have := h.plain; omega, by have := h.free; omega, by have := h.made; omega⟩

theorem makesZ_le (k : Int) : makesZ k ≤ 2 := by
  unfold makesZ
  repeat' split
  all_goals omega

theorem lostZ_len (n : Nd) (sc : Sco) : (lostZ n sc).length ≤ 1 := by
  unfold lostZ
  split <;> simp

/-- A block that no row lies in. -/
structure Free (Nb q : Nat) (vp vf : Value) (X : World) : Prop where
  lt : q < X.heap.size
  nb : q ≠ Nb
  np : vp.ownBlock ≠ some q
  nf : vf.ownBlock ≠ some q

theorem Free.step {Nb q : Nat} {vp vf vp' vf' : Value} {X Y : World} (h : Free Nb q vp vf X) (fy : Nfr Nb vp vf X Y) (hp : Movd X vp vp') (hf : Movd X vf vf') : Free Nb q vp' vf' Y ∧ Y.heap[q]? = X.heap[q]? :=
  ⟨⟨Nat.lt_of_lt_of_le h.lt fy.size, h.nb, hp.not h.lt h.np, hf.not h.lt h.nf⟩, fy.block q h.lt h.nb h.np h.nf⟩

theorem Free.below {Nb q : Nat} {vp vf : Value} {X Y : World} (h : Free Nb q vp vf X) (hb : Below X.heap.size X Y) : Free Nb q vp vf Y ∧ Y.heap[q]? = X.heap[q]? := h.step (Nfr.of_below hb) (Or.inl rfl) (Or.inl rfl)

/-- Names in a slice. -/
def NamesAt (W : World) (ad : Option Addr) (ss : List ByteArray) : Prop := ss.length = 0 ∨ ∃ g o, ad = some ⟨g, o, none⟩ ∧ g < W.heap.size ∧ ∀ j, j < ss.length → W.cell? ⟨g, o + j, none⟩ = some (.string (ss.getD j ⟨#[]⟩))

theorem names_at {B : Nat} {W : World} {sv : Value} {ss : List ByteArray} (h : SliceOf B W sv (strRow ss)) : ∃ ad c, sv = .slice ad ss.length c ∧ NamesAt W ad ss := by
  have hl : (strRow ss).length = ss.length := by unfold strRow; simp
  rcases h with ⟨e, a, c, rfl⟩ | ⟨g, o, cap, rfl, -, hg, hc⟩
  · have h0 : ss.length = 0 := by rw [← hl, e]; rfl
    exact ⟨a, c, by rw [h0], Or.inl h0⟩
  · refine ⟨_, cap, by rw [hl], Or.inr ⟨g, o, rfl, hg, fun j hj => ?_⟩⟩
    rw [hc j (by rw [hl]; exact hj)]
    unfold strRow
    simp [List.getD, hj]

theorem NamesAt.below {W W' : World} {ad : Option Addr} {ss : List ByteArray} (h : NamesAt W ad ss) (hb : Below W.heap.size W W') : NamesAt W' ad ss := by
  rcases h with h | ⟨g, o, e, hg, hc⟩
  · exact Or.inl h
  · exact Or.inr ⟨g, o, e, Nat.lt_of_lt_of_le hg hb.size, fun j hj => (hb.cell (p := ⟨g, o + j, none⟩) hg).trans (hc j hj)⟩

theorem zip_take (xs ys : List ByteArray) (j : Nat) (h1 : j < xs.length) (h2 : xs.length = ys.length) (sc : Sco) : ((xs.zip ys).take (j + 1)).foldl (fun s p => p :: s) sc = (xs.getD j ⟨#[]⟩, ys.getD j ⟨#[]⟩) :: ((xs.zip ys).take j).foldl (fun s p => p :: s) sc := by
  have hz : j < (xs.zip ys).length := by rw [List.length_zip]; omega
  rw [List.take_add_one, List.getElem?_eq_getElem hz, Option.toList_some, List.foldl_append]
  simp [List.getD, h1, show j < ys.length by omega]

theorem walkW_room {n : Nd} {k : Fo} {sc : Sco} {s : Wst} {c : Nat} (h : Room (1 + k.flat.length + c) s) : Room c (walkW n k sc s) := by
  obtain ⟨h1, h2, h3⟩ := kidsW_plain n (renZ n sc s.made) k 0 sc (stepW n sc s)
  have e1 := h.plain
  have e2 := h.free
  have e3 := h.made
  have h4 := lostZ_len n sc
  have h5 := makesZ_le n.kind
  have s1 : (stepW n sc s).plain.length = s.plain.length + 1 := by simp [stepW]
  have s2 : (stepW n sc s).free.length ≤ s.free.length + 1 := by simp only [stepW, List.length_append]; omega
  have s3 : (stepW n sc s).made ≤ s.made + 2 := by simp only [stepW]; omega
  unfold walkW
  exact ⟨by omega, by omega, by omega⟩

theorem lt_step' {i L : Nat} (h : (i : Int) < (L : Int)) : L - (intOf (.int .i64 ((i + 1 : Nat) : Int))).toNat < L - (intOf (.int .i64 (i : Int))).toNat := by simp only [intOf, Int.toNat_natCast]; omega

end Go.Proofs.YtegjdgiegnofhaaDoor

/- The program's own TreePlain and TreeFree, by the namer's walk. -/
namespace Go.Proofs.YtegjdgiegnofhaaDoor
open Go.RowKit Go.Deep

theorem empty_of {s : ByteArray} (h : (s.toList == []) = true) : s = ⟨#[]⟩ := by
  have h1 : s.toList = [] := by simpa using h
  rw [ByteArray.toList_eq] at h1
  obtain ⟨d⟩ := s
  congr
  exact Array.toList_eq_nil_iff.1 h1

theorem fit_same {nm : Int} {i : Nat} {s : ByteArray} (h : fit nm i s = true) : (if (i : Int) + 1 ≤ nm then s else ⟨#[]⟩) = s := by
  unfold fit at h
  split at h
  · rw [if_pos (by omega)]
  · rw [if_neg (by omega), empty_of h]

theorem fit_size {nm : Int} {i : Nat} {s : ByteArray} (h : fit nm i s = true) : s.size ≤ 8 := by
  unfold fit at h
  split at h
  · simp only [nameOk, Bool.and_eq_true, decide_eq_true_eq] at h
    exact h.1.1.2
  · rw [empty_of h]
    exact Nat.zero_le _

/-- A node that is as its kind asks is what its form keeps of it. -/
theorem whole_of {m : Nd} (h : nodeOkZ m = true) : Whole m := by
  simp only [nodeOkZ, ownOk, namesOk, Bool.and_eq_true] at h
  obtain ⟨⟨-, ⟨ha, hb, hc⟩, -, hnum⟩, -⟩ := h
  have e1 := fit_same ha
  have e2 := fit_same hb
  have e3 := fit_same hc
  simp only [Int.natCast_zero, Int.zero_add] at e1
  rw [show ((1 : Nat) : Int) + 1 = 2 from rfl] at e2
  rw [show ((2 : Nat) : Int) + 1 = 3 from rfl] at e3
  have e4 : (if m.kind = 1 ∨ m.kind = 2 then m.num else 0) = m.num := by
    split
    · rfl
    · have h2 := of_decide_eq_true hnum
      rw [most_other (by omega) (by omega)] at h2
      omega
  have e5 := fit_size ha
  refine ⟨?_, by omega⟩
  unfold bareZ
  rw [e1, e2, e3, e4]

theorem own_base {W : World} {B B' : Nat} {e : TypeId} {sz : Nat} {v : Value} {n : Nat} {xs : List Value} (h : W.ownsRow B e sz v n xs) (hB : B' ≤ B) : W.ownsRow B' e sz v n xs := by
  obtain ⟨h0, ⟨rfl, h1⟩ | ⟨g, cap, cur, rfl, hb, hr⟩⟩ := h
  · exact ⟨h0, Or.inl ⟨rfl, h1⟩⟩
  · exact ⟨h0, Or.inr ⟨g, cap, cur, rfl, Nat.le_trans hB hb, hr⟩⟩

theorem room_start {c : Nat} (h : c ≤ 300) : Room (c + 1) ⟨[], [], 0⟩ := ⟨by simp; omega, by simp; omega, by simp; omega⟩

/-- What the walk over a whole tree finds. -/
def wholeW (n : Nd) (k : Fo) : Wst := walkW n k [] ⟨[], [], 0⟩

def plainOf (s : Wst) : List Nd := if s.free = [] then s.plain else []

def textsOf (ss : List ByteArray) : List Tx := ss.map fun s => s.data.toList

def freeOf (s : Wst) : List Tx := (textsOf s.free).foldl addL []

theorem strRow_texts (ss : List ByteArray) : strRow ss = (textsOf ss).map encStr := by
  unfold strRow textsOf
  rw [List.map_map]
  rfl

/-- Less of a row that was written. -/
theorem own_less {w : World} {base g cap q : Nat} {e : TypeId} {cur : Array Value} {ts rs : List Tx} (hbase : base ≤ g) (hb : w.heap[g]? = some (.cells cur e (0, 0))) (h1 : (ts ++ rs).length ≤ cap) (h2 : cap ≤ maxLen) (h3 : cur.size = cap * 1) :
    (Sort.putRow encStr (Sort.ahead w q) g 0 (ts ++ rs).toArray).ownsRow base e 1 (.slice (some ⟨g, 0, none⟩) ts.length cap) ts.length (ts.map encStr) := by
  have hh := heap_sorted (n := q) (os := #[]) (ts ++ rs).toArray hb
  rw [Sort.grow_empty] at hh
  rw [List.length_append] at h1
  refine ⟨by simp, .inr ⟨g, cap, _, rfl, hbase, hh, by omega, h2, by simp [Sort.putCells, h3], ?_⟩⟩
  have ht := take_putCells cur (ts ++ rs) (by rw [List.length_append]; omega)
  rw [Nat.mul_one]
  have e2 := congrArg (List.take ts.length) ht
  rw [List.take_take, List.length_append, Nat.min_eq_left (by omega), List.map_append, List.take_left' (by simp)] at e2
  exact e2

theorem compactUpTo_len (d : Array Tx) : ∀ m, (Lib.compactUpTo d m).length ≤ m := fun m => by
  unfold Lib.compactUpTo
  rw [List.length_map]
  exact Nat.le_trans (List.length_filter_le _ _) (by simp)

theorem compact_len (l : List Tx) : (Lib.compact l).length ≤ l.length := compactUpTo_len _ _

end Go.Proofs.YtegjdgiegnofhaaDoor
