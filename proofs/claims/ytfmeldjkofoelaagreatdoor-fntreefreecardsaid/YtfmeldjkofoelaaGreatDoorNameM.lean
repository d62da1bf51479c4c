/- What the namer keeps in memory: the nodes named anew, the names found free; scopes. -/
import Derived.Test.YtfmeldjkofoelaaGreatDoorNamePure
import Derived.Test.YtfmeldjkofoelaaGreatDoorFormM
import Derived.Test.YtfmeldjkofoelaaGreatDoorOwnRow
import Derived.Lib.SlicesCompact
import Derived.Test.YtfmeldjkofoelaaGreatDoorShelf
import Derived.Lib.SmallJoins
import Derived.Test.YtfmeldjkofoelaaGreatDoorStg
import Derived.Maps.AppendAt
import Derived.Deep.Cut
namespace Go.Proofs.YtfmeldjkofoelaaGreatDoor
open Go.RowKit Go.Deep

/-- A row moved, or it did not. -/
def Movd (W : World) (v v' : Value) : Prop := v'.ownBlock = v.ownBlock ∨ ∃ g, v'.ownBlock = some g ∧ W.heap.size ≤ g

theorem Movd.trans {W W' : World} {a b c : Value} (hs : W.heap.size ≤ W'.heap.size) (h : Movd W a b) (h' : Movd W' b c) : Movd W a c := by
  rcases h' with h' | ⟨g, h', hg⟩
  · rcases h with h | ⟨g, h, hg⟩
    · exact Or.inl (h'.trans h)
    · exact Or.inr ⟨g, h'.trans h, hg⟩
  · exact Or.inr ⟨g, h', Nat.le_trans hs hg⟩

theorem Movd.not {W : World} {a b : Value} (h : Movd W a b) {q : Nat} (hq : q < W.heap.size) (hn : a.ownBlock ≠ some q) : b.ownBlock ≠ some q := by
  intro e
  rcases h with h | ⟨g, h, hg⟩
  · exact hn (h.symm.trans e)
  · rw [h] at e
    cases e
    omega

/-- What the namer's functions leave as it was. -/
structure Nfr (Nb : Nat) (vp vf : Value) (W W' : World) : Prop where
  os : W'.os = W.os
  tape : W'.tape = W.tape
  output : W'.output = W.output
  size : W.heap.size ≤ W'.heap.size
  block : ∀ q, q < W.heap.size → q ≠ Nb → vp.ownBlock ≠ some q → vf.ownBlock ≠ some q → W'.heap[q]? = W.heap[q]?

theorem Nfr.of_below {Nb : Nat} {vp vf : Value} {W W' : World} (h : Below W.heap.size W W') : Nfr Nb vp vf W W' := ⟨h.os, h.tape, h.output, h.size, fun q hq _ _ _ => h.block q hq⟩

theorem Nfr.trans {Nb : Nat} {vp vf vp' vf' : Value} {W W' W'' : World} (h : Nfr Nb vp vf W W') (hp : Movd W vp vp') (hf : Movd W vf vf') (h' : Nfr Nb vp' vf' W' W'') : Nfr Nb vp vf W W'' :=
  ⟨h'.os.trans h.os, h'.tape.trans h.tape, h'.output.trans h.output, Nat.le_trans h.size h'.size, fun q hq h1 h2 h3 => (h'.block q (Nat.lt_of_lt_of_le hq h.size) h1 (hp.not hq h2) (hf.not hq h3)).trans (h.block q hq h1 h2 h3)⟩

/-- The cells of nodes in a row. -/
def ndRow (ns : List Nd) : List Value := ns.flatMap fun n => [.int .i64 n.kind, .int .i64 n.num, .string n.a, .string n.b, .string n.c, .int .i64 n.kids]

theorem ndRow_snoc (ns : List Nd) (n : Nd) : ndRow (ns ++ [n]) = ndRow ns ++ [.int .i64 n.kind, .int .i64 n.num, .string n.a, .string n.b, .string n.c, .int .i64 n.kids] := by
  unfold ndRow
  rw [List.flatMap_append]
  rfl

def strRow (ss : List ByteArray) : List Value := ss.map fun s => .string s

theorem strRow_snoc (ss : List ByteArray) (s : ByteArray) : strRow (ss ++ [s]) = strRow ss ++ [.string s] := by
  unfold strRow
  rw [List.map_append]
  rfl

theorem own_type {W : World} {B : Nat} {e : TypeId} {sz : Nat} {v : Value} {n : Nat} {xs : List Value} (h : W.ownsRow B e sz v n xs) {g : Nat} (hg : v.ownBlock = some g) : B ≤ g ∧ ∃ cur, W.heap[g]? = some (.cells cur e) := by
  obtain ⟨-, ⟨rfl, h0⟩ | ⟨g', cap, cur, rfl, hB, hc, -⟩⟩ := h
  · simp [Value.ownBlock] at hg
  · simp [Value.ownBlock] at hg
    subst hg
    exact ⟨hB, cur, hc⟩

theorem own_slice {W : World} {B : Nat} {e : TypeId} {sz : Nat} {v : Value} {n : Nat} {xs : List Value} (h : W.ownsRow B e sz v n xs) : ∃ ad c, v = .slice ad n c := by
  obtain ⟨-, ⟨rfl, h0⟩ | ⟨g', cap, cur, rfl, -⟩⟩ := h
  · exact ⟨none, 0, by rw [h0]⟩
  · exact ⟨_, _, rfl⟩

theorem own_same {W W' : World} {B : Nat} {e : TypeId} {sz : Nat} {v : Value} {n : Nat} {xs : List Value} (h : W.ownsRow B e sz v n xs) (he : ∀ g, v.ownBlock = some g → W'.heap[g]? = W.heap[g]?) : W'.ownsRow B e sz v n xs := by
  obtain ⟨h0, ⟨rfl, h1⟩ | ⟨g, cap, cur, rfl, hB, hc, hr⟩⟩ := h
  · exact ⟨h0, Or.inl ⟨rfl, h1⟩⟩
  · exact ⟨h0, Or.inr ⟨g, cap, cur, rfl, hB, (he g (by simp [Value.ownBlock])).trans hc, hr⟩⟩

/-- The namer, as it lies. -/
structure Nms (W0 : World) (Nb : Nat) (s : Wst) (vp vf : Value) (W : World) : Prop where
  blk : W.heap[Nb]? = some (.cells #[vp, vf, .int .i64 (s.made : Int)] 41)
  prow : W.ownsRow W0.heap.size 29 6 vp s.plain.length (ndRow s.plain)
  frow : W.ownsRow W0.heap.size 9 1 vf s.free.length (strRow s.free)
  os : W.os = W0.os
  tape : W.tape = W0.tape
  output : W.output = W0.output
  size : W0.heap.size ≤ W.heap.size
  kept : ∀ q, q < W0.heap.size → q ≠ Nb → W.heap[q]? = W0.heap[q]?
  nb : Nb < W0.heap.size

theorem Nms.below {W0 : World} {Nb : Nat} {s : Wst} {vp vf : Value} {W W' : World} (h : Nms W0 Nb s vp vf W) (hb : Below W.heap.size W W') : Nms W0 Nb s vp vf W' := by
  have hs := h.size
  exact ⟨(hb.block _ (heap_lt h.blk)).trans h.blk, own_same h.prow (fun g e => by obtain ⟨-, c, hc⟩ := own_type h.prow e; exact hb.block g (heap_lt hc)), own_same h.frow (fun g e => by obtain ⟨-, c, hc⟩ := own_type h.frow e; exact hb.block g (heap_lt hc)), hb.os.trans h.os, hb.tape.trans h.tape, hb.output.trans h.output, Nat.le_trans h.size hb.size, fun q hq hn => (hb.block q (by omega)).trans (h.kept q hq hn), h.nb⟩

/-- No row lies in the namer's own block, nor in a scope's, nor do both lie in one. -/
theorem Nms.apart {W0 : World} {Nb : Nat} {s : Wst} {vp vf : Value} {W : World} (h : Nms W0 Nb s vp vf W) {q : Nat} {c : Array Value} {t : TypeId} (hq : W.heap[q]? = some (.cells c t)) : (t ≠ 29 → vp.ownBlock ≠ some q) ∧ (t ≠ 9 → vf.ownBlock ≠ some q) := by
  constructor
  · intro ht e
    obtain ⟨-, cur, hc⟩ := own_type h.prow e
    rw [hq] at hc
    cases hc
    exact ht rfl
  · intro ht e
    obtain ⟨-, cur, hc⟩ := own_type h.frow e
    rw [hq] at hc
    cases hc
    exact ht rfl

/-- Scopes in memory, one around the other. -/
def ScoAt (W : World) : Option Addr → Sco → Prop
  | p, [] => p = none
  | p, (x, y) :: r => ∃ b q, p = some ⟨b, 0, none⟩ ∧ W.heap[b]? = some (.cells #[.string x, .string y, .pointer q] 93) ∧ ScoAt W q r

theorem ScoAt.kept {W W' : World} (h : ∀ (b : Nat) (c : Array Value), W.heap[b]? = some (Obj.cells c 93) → W'.heap[b]? = W.heap[b]?) : ∀ (sc : Sco) (p : Option Addr), ScoAt W p sc → ScoAt W' p sc
  | [], _, e => e
  | (_, _) :: r, _, ⟨b, q, e, hb, hr⟩ => ⟨b, q, e, (h b _ hb).trans hb, ScoAt.kept h r q hr⟩

theorem ScoAt.below {W W' : World} {sc : Sco} {p : Option Addr} (h : ScoAt W p sc) (hb : Below W.heap.size W W') : ScoAt W' p sc := ScoAt.kept (fun b _ e => hb.block b (heap_lt e)) sc p h

theorem ScoAt.frame {W0 : World} {Nb : Nat} {s : Wst} {vp vf : Value} {W W' : World} {sc : Sco} {p : Option Addr} (h : ScoAt W p sc) (n : Nms W0 Nb s vp vf W) (hf : Nfr Nb vp vf W W') : ScoAt W' p sc :=
  ScoAt.kept (fun b _ e => hf.block b (heap_lt e) (fun e2 => by subst e2; rw [n.blk] at e; cases e) ((n.apart e).1 (by decide)) ((n.apart e).2 (by decide))) sc p h

/-- The names of the walk are not many. -/
structure Wsm (s : Wst) : Prop where
  plain : s.plain.length ≤ 90000
  free : s.free.length ≤ 90000
  made : s.made ≤ 90000
end Go.Proofs.YtfmeldjkofoelaaGreatDoor

/- Names put where they belong, one behind the other, are those names sorted, each once. -/
namespace Go.Proofs.YtfmeldjkofoelaaGreatDoor
open Go.RowKit

abbrev Tx := List UInt8

/-- A name is put where it belongs. -/
def insL : List Tx → Tx → List Tx
  | [], s => [s]
  | x :: r, s => if s < x then s :: x :: r else x :: insL r s

def addL (l : List Tx) (s : Tx) : List Tx := if s ∈ l then l else insL l s

theorem mem_insL (s y : Tx) : ∀ l : List Tx, y ∈ insL l s ↔ y = s ∨ y ∈ l
  | [] => by simp [insL]
  | x :: r => by
    unfold insL
    split
    · simp
    · rw [List.mem_cons, mem_insL s y r, List.mem_cons]
      constructor
      · rintro (h | h | h)
        · exact Or.inr (Or.inl h)
        · exact Or.inl h
        · exact Or.inr (Or.inr h)
      · rintro (h | h | h)
        · exact Or.inr (Or.inl h)
        · exact Or.inl h
        · exact Or.inr (Or.inr h)

theorem mem_addL (l : List Tx) (s y : Tx) : y ∈ addL l s ↔ y = s ∨ y ∈ l := by
  unfold addL
  split
  · rename_i h
    constructor
    · exact Or.inr
    · rintro (rfl | h')
      · exact h
      · exact h'
  · exact mem_insL s y l

theorem lt_of_ne {a b : Tx} (h : ¬ a < b) (hne : a ≠ b) : b < a := by
  rcases Classical.em (b < a) with h' | h'
  · exact h'
  · exact absurd (List.le_antisymm (List.not_lt.1 h') (List.not_lt.1 h)) hne

theorem insL_sorted (s : Tx) : ∀ l : List Tx, l.Pairwise (· < ·) → s ∉ l → (insL l s).Pairwise (· < ·)
  | [], _, _ => by simp [insL]
  | x :: r, h, hn => by
    obtain ⟨h1, h2⟩ := List.pairwise_cons.1 h
    unfold insL
    split
    · rename_i hs
      refine List.pairwise_cons.2 ⟨fun y hy => ?_, h⟩
      rcases List.mem_cons.1 hy with rfl | hy
      · exact hs
      · exact List.lt_trans hs (h1 y hy)
    · rename_i hs
      have hx : x < s := lt_of_ne hs (fun e => hn (e ▸ List.mem_cons_self))
      refine List.pairwise_cons.2 ⟨fun y hy => ?_, insL_sorted s r h2 (fun h' => hn (List.mem_cons_of_mem _ h'))⟩
      rcases (mem_insL s y r).1 hy with rfl | hy
      · exact hx
      · exact h1 y hy

theorem addL_sorted {l : List Tx} (h : l.Pairwise (· < ·)) (s : Tx) : (addL l s).Pairwise (· < ·) := by
  unfold addL
  split
  · exact h
  · rename_i hn
    exact insL_sorted s l h hn

theorem fold_sorted : ∀ (xs l : List Tx), l.Pairwise (· < ·) → (xs.foldl addL l).Pairwise (· < ·) ∧ ∀ y, y ∈ xs.foldl addL l ↔ y ∈ xs ∨ y ∈ l
  | [], l, h => ⟨h, fun y => by simp⟩
  | x :: xs, l, h => by
    obtain ⟨h1, h2⟩ := fold_sorted xs (addL l x) (addL_sorted h x)
    refine ⟨h1, fun y => ?_⟩
    rw [List.foldl_cons, h2 y, mem_addL, List.mem_cons]
    constructor
    · rintro (h | h | h)
      · exact Or.inl (Or.inr h)
      · exact Or.inl (Or.inl h)
      · exact Or.inr h
    · rintro ((h | h) | h)
      · exact Or.inr (Or.inl h)
      · exact Or.inl h
      · exact Or.inr (Or.inr h)

/-- Two lists that ascend and hold the same are one. -/
theorem sorted_one : ∀ (l m : List Tx), l.Pairwise (· < ·) → m.Pairwise (· < ·) → (∀ y, y ∈ l ↔ y ∈ m) → l = m
  | [], [], _, _, _ => rfl
  | [], y :: m, _, _, h => by
    have := (h y).2 List.mem_cons_self
    cases this
  | x :: l, [], _, _, h => by
    have := (h x).1 List.mem_cons_self
    cases this
  | x :: l, y :: m, hl, hm, h => by
    obtain ⟨l1, l2⟩ := List.pairwise_cons.1 hl
    obtain ⟨m1, m2⟩ := List.pairwise_cons.1 hm
    have hxy : x = y := by
      rcases List.mem_cons.1 ((h x).1 List.mem_cons_self) with e | e
      · exact e
      · rcases List.mem_cons.1 ((h y).2 List.mem_cons_self) with e' | e'
        · exact e'.symm
        · exact absurd (List.lt_trans (m1 x e) (l1 y e')) (List.lt_irrefl _)
    subst hxy
    congr 1
    refine sorted_one l m l2 m2 (fun z => ⟨fun hz => ?_, fun hz => ?_⟩)
    · rcases List.mem_cons.1 ((h z).1 (List.mem_cons_of_mem _ hz)) with rfl | e
      · exact absurd (l1 z hz) (List.lt_irrefl _)
      · exact e
    · rcases List.mem_cons.1 ((h z).2 (List.mem_cons_of_mem _ hz)) with rfl | e
      · exact absurd (m1 z hz) (List.lt_irrefl _)
      · exact e

theorem compact_upTo (d : Array Tx) (hs : ∀ i j, i ≤ j → j < d.size → d[i]! ≤ d[j]!) : ∀ m, m ≤ d.size → (Lib.compactUpTo d m).Pairwise (· < ·) ∧ (∀ x, x ∈ Lib.compactUpTo d m ↔ ∃ j, j < m ∧ d[j]! = x)
  | 0, _ => ⟨by simp [Lib.compactUpTo], fun x => by simp [Lib.compactUpTo]⟩
  | m + 1, hm => by
    obtain ⟨h1, h2⟩ := compact_upTo d hs m (by omega)
    rw [Lib.compactUpTo_succ]
    by_cases hk : Lib.keeps d m = true
    · rw [if_pos hk]
      have hk' : m = 0 ∨ d[m]! ≠ d[m - 1]! := of_decide_eq_true hk
      refine ⟨List.pairwise_append.2 ⟨h1, by simp, fun x hx y hy => ?_⟩, fun x => ?_⟩
      · rw [List.mem_singleton] at hy
        subst hy
        obtain ⟨j, hj, rfl⟩ := (h2 x).1 hx
        have hne := hk'.resolve_left (by omega)
        have a1 : d[j]! ≤ d[m - 1]! := hs j (m - 1) (by omega) (by omega)
        have a2 : d[m - 1]! ≤ d[m]! := hs (m - 1) m (by omega) (by omega)
        refine lt_of_ne (List.not_lt.2 (List.le_trans a1 a2)) (fun e => ?_)
        rw [← e] at a1
        exact hne (List.le_antisymm a1 a2)
      · rw [List.mem_append, h2 x, List.mem_singleton]
        constructor
        · rintro (⟨j, hj, e⟩ | rfl)
          · exact ⟨j, by omega, e⟩
          · exact ⟨m, by omega, rfl⟩
        · rintro ⟨j, hj, e⟩
          by_cases hjm : j = m
          · subst hjm
            exact Or.inr e.symm
          · exact Or.inl ⟨j, by omega, e⟩
    · rw [if_neg hk, List.append_nil]
      have hk' : ¬ (m = 0 ∨ d[m]! ≠ d[m - 1]!) := fun h => hk (decide_eq_true h)
      refine ⟨h1, fun x => ?_⟩
      rw [h2 x]
      constructor
      · rintro ⟨j, hj, e⟩
        exact ⟨j, by omega, e⟩
      · rintro ⟨j, hj, e⟩
        by_cases hjm : j = m
        · subst hjm
          have h3 : d[j]! = d[j - 1]! := Classical.byContradiction (fun h => hk' (Or.inr h))
          exact ⟨j - 1, by omega, by rw [← h3]; exact e⟩
        · exact ⟨j, by omega, e⟩

theorem free_same (l : List Tx) : Lib.compact (l.mergeSort (fun x y => decide (x ≤ y))) = l.foldl addL [] := by
  obtain ⟨h1, h2⟩ := fold_sorted l [] List.Pairwise.nil
  have hp : (l.mergeSort (fun x y => decide (x ≤ y))).Pairwise (fun a b => decide (a ≤ b) = true) := List.pairwise_mergeSort (le := fun x y => decide (x ≤ y)) (fun a b c h h' => decide_eq_true (List.le_trans (of_decide_eq_true h) (of_decide_eq_true h'))) (fun a b => by
    rcases List.le_total a b with h | h
    · rw [decide_eq_true h, Bool.true_or]
    · rw [decide_eq_true h, Bool.or_true]) l
  generalize hms : l.mergeSort (fun x y => decide (x ≤ y)) = ms at *
  have hmem : ∀ y, y ∈ ms ↔ y ∈ l := fun y => by rw [← hms]; exact List.mem_mergeSort
  have hs : ∀ i j, i ≤ j → j < ms.toArray.size → ms.toArray[i]! ≤ ms.toArray[j]! := fun i j hij hj => by
    have hj' : j < ms.length := by simpa using hj
    have e : ∀ k (hk : k < ms.length), ms.toArray[k]! = ms[k] := fun k hk => by simp [hk]
    rw [e i (by omega), e j hj']
    by_cases hij' : i = j
    · subst hij'
      exact List.not_lt.1 (List.lt_irrefl _)
    · exact of_decide_eq_true (List.pairwise_iff_getElem.1 hp i j (by omega) hj' (by omega))
  obtain ⟨c1, c2⟩ := compact_upTo ms.toArray hs ms.length (by simp)
  refine sorted_one _ _ c1 h1 (fun y => ?_)
  unfold Lib.compact
  rw [c2 y, h2 y, ← hmem y]
  constructor
  · rintro ⟨j, hj, rfl⟩
    exact Or.inl (by simp [hj])
  · rintro (h | h)
    · obtain ⟨j, hj, rfl⟩ := List.getElem_of_mem h
      exact ⟨j, hj, by simp [hj]⟩
    · cases h
end Go.Proofs.YtfmeldjkofoelaaGreatDoor

/- The namer's small functions: a scope around another, what a name stands for, which names a node makes known, a name made anew. -/
namespace Go.Proofs.YtfmeldjkofoelaaGreatDoor
open Go.RowKit Go.Deep

/-- The table that numbers are written by. -/
structure Laid (w : World) : Prop where
  pows : Lib.TabIs Tryz.prog w "internal/strconv.uint64pow10" .u64 Lib.pow10Tab

theorem gPows : Tryz.prog.globalNamed "internal/strconv.uint64pow10" = some 0 := by kernel_rfl

set_option maxRecDepth 100000 in
theorem with_calls (p : Option Addr) (x y : ByteArray) (w : World) :
    Calls Tryz.prog 31 #[.pointer p, .string x, .string y] w fun e w' => e = .returned (.pointer (some ⟨w.heap.size, 0, none⟩)) ∧ w' = w.alloc (.cells #[.string x, .string y, .pointer p] 93) := by
  go_enter Tryz.func31, Tryz.ntmps31
  go_wp2_with fail
  go_ret
  exact ⟨rfl, rfl⟩

theorem slice_lit (w : World) (o1 : Obj) (ss : List ByteArray) : SliceOf w.heap.size ((w.alloc o1).alloc (.cells (strRow ss).toArray 9)) (.slice (some ⟨w.heap.size + 1, 0, none⟩) (strRow ss).length (strRow ss).length) (strRow ss) := row_new w o1 (strRow ss) 9

theorem known_none (w : World) (o1 : Obj) : SliceOf w.heap.size (w.alloc o1) (.slice none 0 0) (strRow []) := Or.inl ⟨rfl, none, 0, rfl⟩

theorem one_new' (w : World) (o1 : Obj) : Below w.heap.size w (w.alloc o1) := (Below.refl _ _).alloc (Nat.le_refl _) _

set_option maxHeartbeats 2000000 in
set_option maxRecDepth 100000 in
theorem known_calls (n : Nd) (i : Nat) (w : World) :
    Calls Tryz.prog 30 #[ndV n, .int .i64 (i : Int)] w fun e w' => ∃ sv, e = .returned sv ∧ SliceOf w.heap.size w' sv (strRow (knownZ n i)) ∧ Below w.heap.size w w' := by
  obtain ⟨kd, num, a, b, c, kids⟩ := n
  have h1 : ∀ i : Nat, ((i : Int) = 1) ↔ (i = 1) := fun i => by omega
  have h2 : ∀ i : Nat, ((i : Int) = 2) ↔ (i = 2) := fun i => by omega
  unfold ndV
  dsimp only
  go_enter Tryz.func30, Tryz.ntmps30
  by_cases k6 : kd = 6
  · have hz : knownZ ⟨kd, num, a, b, c, kids⟩ i = [a] := by unfold knownZ; rw [if_pos (Or.inl k6)]
    rw [hz]
    subst k6
    go_wp2_with fail
    go_ret
    exact ⟨_, rfl, slice_lit w _ [a], below_two w _ _⟩
  by_cases k25 : kd = 25
  · have hz : knownZ ⟨kd, num, a, b, c, kids⟩ i = [a] := by unfold knownZ; rw [if_pos (Or.inr k25)]
    rw [hz]
    subst k25
    go_wp2_with fail
    go_ret
    exact ⟨_, rfl, slice_lit w _ [a], below_two w _ _⟩
  by_cases k8 : kd = 8
  · subst k8
    by_cases i1 : (i : Int) = 1
    · have hz : knownZ ⟨8, num, a, b, c, kids⟩ i = [a] := by unfold knownZ; rw [if_neg (by dsimp only; decide), if_pos (Or.inl ⟨rfl, (h1 i).1 i1⟩)]
      rw [hz]
      go_wp2_with fail
      go_ret
      exact ⟨_, rfl, slice_lit w _ [a], below_two w _ _⟩
    · have hz : knownZ ⟨8, num, a, b, c, kids⟩ i = [] := by
        unfold knownZ
        rw [if_neg (by dsimp only; decide), if_neg (by rintro (⟨-, h⟩ | ⟨h, -⟩); exact i1 ((h1 i).2 h); cases h), if_neg (by rintro (h | ⟨h, -⟩) <;> cases h), if_neg (by dsimp only; decide)]
      rw [hz]
      go_wp2_with fail
      go_ret
      exact ⟨_, rfl, known_none w _, one_new' w _⟩
  by_cases k9 : kd = 9
  · subst k9
    by_cases i1 : (i : Int) = 1
    · have hz : knownZ ⟨9, num, a, b, c, kids⟩ i = [a] := by unfold knownZ; rw [if_neg (by dsimp only; decide), if_pos (Or.inr ⟨rfl, (h1 i).1 i1⟩)]
      rw [hz]
      go_wp2_with fail
      go_ret
      exact ⟨_, rfl, slice_lit w _ [a], below_two w _ _⟩
    · have hz : knownZ ⟨9, num, a, b, c, kids⟩ i = [a, b] := by
        unfold knownZ
        rw [if_neg (by dsimp only; decide), if_neg (by rintro (⟨h, -⟩ | ⟨-, h⟩); cases h; exact i1 ((h1 i).2 h)), if_pos (Or.inl rfl)]
      rw [hz]
      go_wp2_with fail
      go_ret
      exact ⟨_, rfl, slice_lit w _ [a, b], below_two w _ _⟩
  by_cases k20 : kd = 20
  · subst k20
    by_cases i2 : (i : Int) = 2
    · have hz : knownZ ⟨20, num, a, b, c, kids⟩ i = [a, b] := by
        unfold knownZ
        rw [if_neg (by dsimp only; decide), if_neg (by rintro (⟨h, -⟩ | ⟨h, -⟩) <;> cases h), if_pos (Or.inr ⟨rfl, (h2 i).1 i2⟩)]
      rw [hz]
      go_wp2_with fail
      go_ret
      exact ⟨_, rfl, slice_lit w _ [a, b], below_two w _ _⟩
    · have hz : knownZ ⟨20, num, a, b, c, kids⟩ i = [] := by
        unfold knownZ
        rw [if_neg (by dsimp only; decide), if_neg (by rintro (⟨h, -⟩ | ⟨h, -⟩) <;> cases h), if_neg (by rintro (h | ⟨-, h⟩); cases h; exact i2 ((h2 i).2 h)), if_neg (by dsimp only; decide)]
      rw [hz]
      go_wp2_with fail
      go_ret
      exact ⟨_, rfl, known_none w _, one_new' w _⟩
  by_cases k26 : kd = 26
  · subst k26
    have hz : knownZ ⟨26, num, a, b, c, kids⟩ i = [b, c] := by
      unfold knownZ
      rw [if_neg (by dsimp only; decide), if_neg (by rintro (⟨h, -⟩ | ⟨h, -⟩) <;> cases h), if_neg (by rintro (h | ⟨h, -⟩) <;> cases h), if_pos rfl]
    rw [hz]
    go_wp2_with fail
    go_ret
    exact ⟨_, rfl, slice_lit w _ [b, c], below_two w _ _⟩
  · have hz : knownZ ⟨kd, num, a, b, c, kids⟩ i = [] := by
      unfold knownZ
      rw [if_neg (by rintro (h | h); exact k6 h; exact k25 h), if_neg (by rintro (⟨h, -⟩ | ⟨h, -⟩); exact k8 h; exact k9 h), if_neg (by rintro (h | ⟨h, -⟩); exact k9 h; exact k20 h), if_neg k26]
    rw [hz]
    have b6 : (kd == 6) = false := beq_eq_false_iff_ne.2 k6
    have b25 : (kd == 25) = false := beq_eq_false_iff_ne.2 k25
    have b8 : (kd == 8) = false := beq_eq_false_iff_ne.2 k8
    have b9 : (kd == 9) = false := beq_eq_false_iff_ne.2 k9
    have b20 : (kd == 20) = false := beq_eq_false_iff_ne.2 k20
    have b26 : (kd == 26) = false := beq_eq_false_iff_ne.2 k26
    clear hz h1 h2
    go_wp2_with fail
    go_ret
    exact ⟨_, rfl, known_none w _, one_new' w _⟩

/-- How far a scope reaches, for the loop. -/
def scoLen : Nat → World → Value → Nat
  | 0, _, _ => 0
  | f + 1, W, .pointer (some a) => (match W.cell? ⟨a.block, 2, none⟩ with
    | some v => 1 + scoLen f W v
    | none => 0)
  | _ + 1, _, _ => 0

theorem scoLen_eq {W : World} : ∀ (sc : Sco) (f : Nat) (p : Option Addr), ScoAt W p sc → sc.length ≤ f → scoLen f W (.pointer p) = sc.length
  | [], f, p, h, _ => by
    rw [show p = none from h]
    cases f <;> rfl
  | (x, y) :: r, 0, p, _, hf => by simp at hf
  | (x, y) :: r, f + 1, p, ⟨b, q, e, hb, hr⟩, hf => by
    subst e
    unfold scoLen
    rw [cell_of_heap hb 2]
    have := scoLen_eq r f q hr (by simpa using hf)
    simp only [List.length_cons]
    show 1 + scoLen f W (.pointer q) = _
    omega

theorem str_eq (x s : ByteArray) : (x.toList == s.toList) = decide (x = s) := by
  rw [ByteArray.toList_eq, ByteArray.toList_eq]
  by_cases h : x = s
  · subst h
    simp
  · rw [decide_eq_false h]
    rw [beq_eq_false_iff_ne]
    intro e
    exact h (by cases x; cases s; simp_all)

set_option maxHeartbeats 1000000 in
set_option maxRecDepth 100000 in
theorem find_calls (p : Option Addr) (sc : Sco) (s : ByteArray) (w : World) (h : ScoAt w p sc) :
    Calls Tryz.prog 50 #[.pointer p, .string s] w fun e w' => e = .returned (.tuple #[.string ((findS sc s).getD ⟨#[]⟩), .bool (findS sc s).isSome]) ∧ w = w' := by
  obtain ⟨R, hR⟩ : ∃ R, findS sc s = R := ⟨_, rfl⟩
  have HR := hid hR
  have HS := hid h
  rw [hR]
  clear hR h
  go_enter Tryz.func50, Tryz.ntmps50
  go_wp2_with fail
  go_loop [0] (fun v => ∃ (q : Option Addr) (r : Sco), v = .pointer q ∧ Hid (ScoAt w q r ∧ findS r s = R ∧ r.length ≤ sc.length)) (fun v => scoLen sc.length w v)
  case atStart => exact ⟨p, sc, rfl, HS.out, HR.out, Nat.le_refl _⟩
  case round =>
    obtain ⟨q, r, rfl, HQ⟩ := hrel
    cases r with
    | nil =>
      have e : q = none := HQ.out.1
      subst e
      have hR0 : R = none := HQ.out.2.1.symm
      subst hR0
      go_wp2_with fail
      go_ret2
      exact ⟨rfl, rfl⟩
    | cons xy r =>
      obtain ⟨x, y⟩ := xy
      obtain ⟨⟨b, q', e, hb, hr⟩, hf, hl⟩ := HQ.out
      subst e
      have c0 := cell_of_heap hb 0
      have c1 := cell_of_heap hb 1
      have c2 := cell_of_heap hb 2
      simp at c0 c1 c2
      have HB := hid hb
      have Hr := hid hr
      have hxs := str_eq x s
      by_cases he : x = s
      · subst he
        unfold findS at hf
        rw [if_pos rfl] at hf
        subst hf
        clear hb hr hl HQ
        go_wp2_with fail
        go_ret2
        exact ⟨rfl, rfl⟩
      · rw [decide_eq_false he] at hxs
        unfold findS at hf
        rw [if_neg he] at hf
        have HF := hid hf
        have HL := hid hl
        clear hb hr hl hf
        go_wp2_with fail
        refine ⟨⟨q', r, rfl, Hr.out, HF.out, by have := HL.out; simp at this; omega⟩, ?_⟩
        rw [scoLen_eq r _ q' Hr.out (by have := HL.out; simp at this; omega), scoLen_eq ((x, y) :: r) _ _ HQ.out.1 HL.out]
        simp
end Go.Proofs.YtfmeldjkofoelaaGreatDoor

/- The namer makes names anew and gives a node its new names. -/
namespace Go.Proofs.YtfmeldjkofoelaaGreatDoor
open Go.RowKit Go.Deep

theorem Laid.same {W W' : World} (h : Laid W) (e : W'.heap[0]? = W.heap[0]?) : Laid W' := by
  obtain ⟨h⟩ := h
  refine ⟨?_⟩
  unfold Lib.TabIs at h ⊢
  rw [← h]
  unfold World.var?
  rw [gPows]
  simp [e]

theorem Laid.stays {w w' : World} (h : Laid w) (hb : Below w.heap.size w w') : Laid w' := ⟨Joins.var_stays gPows h.pows hb (Nat.le_refl _)⟩

theorem grow_below (w : World) (k : Nat) (os : Array Obj) : Below w.heap.size w (Go.Sort.grow (w.drewN k) os) :=
  ⟨rfl, rfl, rfl, by rw [Go.Sort.size_grow]; exact Nat.le_add_right _ _, fun j hj => by rw [Go.Sort.heap_grow_old (w.drewN k) os hj]; rfl⟩

theorem itoa_calls (n : Int) (h0 : 0 ≤ n) (h1 : n ≤ 1000000) (w : World) (hL : Laid w) :
    Calls Tryz.prog 83 #[.int .i64 n] w fun e w' => e = .returned (.string ⟨(Lib.itoa n).toArray⟩) ∧ Below w.heap.size w w' := by
  refine (Tryz.strconv_Itoa n (by omega) (by omega) w hL.pows).mono ?_
  rintro e w' ⟨rfl, k, os, rfl⟩
  exact ⟨rfl, grow_below w k os⟩

set_option maxRecDepth 100000 in
theorem clone_calls (s : ByteArray) (w : World) (h : s.size ≤ 281474976710656) : Calls Tryz.prog 51 #[.string s] w fun e w' => e = .returned (.string s) ∧ Below w.heap.size w w' := by
  have HC := hid (Tryz.stringslite_Clone s w h)
  clear h
  go_enter Tryz.func51, Tryz.ntmps51
  go_wp2_with fail
  refine HC.out.mono ?_
  rintro e w1 ⟨rfl, hb⟩
  go_wp2_with fail
  go_ret
  exact ⟨rfl, hb⟩

/-- The namer's third cell is set. -/
theorem nms_made {W0 : World} {Nb : Nat} {s : Wst} {vp vf : Value} {W : World} (h : Nms W0 Nb s vp vf W) (m : Nat) : Nms W0 Nb { s with made := m } vp vf (W.setCell ⟨Nb, 2, none⟩ (.int .i64 (m : Int))) ∧ Nfr Nb vp vf W (W.setCell ⟨Nb, 2, none⟩ (.int .i64 (m : Int))) := by
  have e : ∀ q, q ≠ Nb → (W.setCell ⟨Nb, 2, none⟩ (.int .i64 (m : Int))).heap[q]? = W.heap[q]? := fun q hq => Below.heap_setCell W ⟨Nb, 2, none⟩ _ q hq
  have hs : (W.setCell ⟨Nb, 2, none⟩ (.int .i64 (m : Int))).heap.size = W.heap.size := by simp [World.setCell]
  have ap := h.apart h.blk
  refine ⟨⟨?_, own_same h.prow (fun g eg => e g (fun e2 => by subst e2; exact ap.1 (by decide) eg)), own_same h.frow (fun g eg => e g (fun e2 => by subst e2; exact ap.2 (by decide) eg)), h.os, h.tape, h.output, by rw [hs]; exact h.size, fun q hq hn => (e q hn).trans (h.kept q hq hn), h.nb⟩, ⟨rfl, rfl, rfl, by rw [hs]; exact Nat.le_refl _, fun q _ hn _ _ => e q hn⟩⟩
  have hb := h.blk
  simp [World.setCell, Array.getElem?_modify, hb]

theorem bytes_append (a b : List UInt8) : (⟨a.toArray⟩ : ByteArray) ++ ⟨b.toArray⟩ = ⟨(a ++ b).toArray⟩ := by
  apply ByteArray.ext
  simp

theorem v_append (l : List UInt8) : (⟨#[118]⟩ : ByteArray) ++ ⟨l.toArray⟩ = ⟨(118 :: l).toArray⟩ := bytes_append [118] l

set_option maxHeartbeats 1000000 in
set_option maxRecDepth 100000 in
theorem fresh_calls {W0 : World} {Nb : Nat} {s : Wst} {vp vf : Value} (W : World) (n : Nms W0 Nb s vp vf W) (hL : Laid W) (h0 : Nb ≠ 0) (hm : s.made ≤ 100000) :
    Calls Tryz.prog 52 #[.pointer (some ⟨Nb, 0, none⟩)] W fun e W' => e = .returned (.string (freshZ s.made)) ∧ Nms W0 Nb { s with made := s.made + 1 } vp vf W' ∧ Nfr Nb vp vf W W' ∧ Laid W' := by
  obtain ⟨sp, sf, m⟩ := s
  dsimp only at *
  have c2 := cell_of_heap n.blk 2
  have z2 := frozen_of_heap n.blk 2
  simp at c2
  have hw1 : wrap64 ((m : Int) + 1) = (m : Int) + 1 := by unfold wrap64; omega
  have hw2 : wrap64 ((m : Int) + 1 - 1) = (m : Int) := by unfold wrap64; omega
  obtain ⟨n1, f1⟩ := nms_made n (m + 1)
  have hcast : ((m + 1 : Nat) : Int) = (m : Int) + 1 := by omega
  dsimp only at n1 f1
  rw [hcast] at n1 f1
  have hL1 := hL.same (f1.block 0 (by have := heap_lt n.blk; omega) (fun e => h0 e.symm) (fun e => by have := (own_type n.prow e).1; have := n.nb; omega) (fun e => by have := (own_type n.frow e).1; have := n.nb; omega))
  have HN := hid n1
  have HF := hid f1
  have HI := hid (itoa_calls (m : Int) (by omega) (by omega) _ hL1)
  have HL := hid hL1
  have d2 := cell_of_heap n1.blk 2
  simp at d2
  clear n n1 f1 hL hL1 hcast
  go_enter Tryz.func52, Tryz.ntmps52
  go_wp2_with fail
  refine HI.out.mono ?_
  rintro e W2 ⟨rfl, hb2⟩
  have HN2 := hid (HN.out.below hb2)
  have HF2 := hid (HF.out.trans (Or.inl rfl) (Or.inl rfl) (Nfr.of_below hb2))
  have HL2 := hid (HL.out.stays hb2)
  have hva := hid (v_append (Lib.itoa (m : Int)))
  have hds : (⟨(Lib.itoa (m : Int)).toArray⟩ : ByteArray).size ≤ 21 := by
    have := Lib.itoa_length_le (m : Int) (by omega) (by omega)
    simp [ByteArray.size]
    omega
  generalize (⟨(Lib.itoa (m : Int)).toArray⟩ : ByteArray) = D at *
  clear HI HN HF HL c2 d2 hb2
  go_wp2_with fail
  go_ret
  refine ⟨?_, HN2.out, HF2.out, HL2.out⟩
  have e := hva.out
  unfold freshZ
  rw [← e]
  rfl

/-- A box of a node. -/
theorem box6_set {w : World} {b : Nat} {t : TypeId} {x0 x1 x2 x3 x4 x5 : Value} (h : w.heap[b]? = some (.cells #[x0, x1, x2, x3, x4, x5] t)) (v : Value) :
    (w.setCell ⟨b, 2, none⟩ v).heap[b]? = some (.cells #[x0, x1, v, x3, x4, x5] t) ∧ (w.setCell ⟨b, 3, none⟩ v).heap[b]? = some (.cells #[x0, x1, x2, v, x4, x5] t) ∧ (w.setCell ⟨b, 4, none⟩ v).heap[b]? = some (.cells #[x0, x1, x2, x3, v, x5] t) := by
  refine ⟨?_, ?_, ?_⟩ <;> simp [World.setCell, Array.getElem?_modify, h]

/-- A cell of a block beside is set. -/
theorem nms_box {W0 : World} {Nb : Nat} {s : Wst} {vp vf : Value} {W : World} (h : Nms W0 Nb s vp vf W) {b : Nat} (hb : W0.heap.size ≤ b) (h1 : vp.ownBlock ≠ some b) (h2 : vf.ownBlock ≠ some b) (i : Nat) (v : Value) : Nms W0 Nb s vp vf (W.setCell ⟨b, i, none⟩ v) := by
  have hnb := h.nb
  have e : ∀ q, q ≠ b → (W.setCell ⟨b, i, none⟩ v).heap[q]? = W.heap[q]? := fun q hq => Below.heap_setCell W ⟨b, i, none⟩ _ q hq
  have hs : (W.setCell ⟨b, i, none⟩ v).heap.size = W.heap.size := by simp [World.setCell]
  exact ⟨(e Nb (by omega)).trans h.blk, own_same h.prow (fun g eg => e g (fun e2 => h1 (e2 ▸ eg))), own_same h.frow (fun g eg => e g (fun e2 => h2 (e2 ▸ eg))), h.os, h.tape, h.output, by rw [hs]; exact h.size, fun q hq hn => (e q (by omega)).trans (h.kept q hq hn), h.nb⟩
/-- A name more is found free. -/
theorem nms_free {W0 : World} {Nb : Nat} {s : Wst} {vp vf : Value} {X Y : World} (h : Nms W0 Nb s vp vf X) {vf' : Value} {a : ByteArray} (hown : Y.ownsRow W0.heap.size 9 1 vf' (s.free.length + 1) (strRow s.free ++ [.string a])) (hg : X.grownBy Y vf.ownBlock) (hat : vf'.ownBlock = vf.ownBlock ∨ vf'.ownBlock = some X.heap.size) :
    Nms W0 Nb ⟨s.plain, s.free ++ [a], s.made⟩ vp vf' (Y.setCell ⟨Nb, 1, none⟩ vf') ∧ Nfr Nb vp vf X (Y.setCell ⟨Nb, 1, none⟩ vf') ∧ Movd X vf vf' := by
  have hnb := h.nb
  have hsz := h.size
  have gs := hg.size
  have apN := h.apart h.blk
  have kb : ∀ q, q < X.heap.size → vf.ownBlock ≠ some q → Y.heap[q]? = X.heap[q]? := fun q hq hn => hg.block q hq (fun e => hn e.symm)
  have hbY : Y.heap[Nb]? = some (.cells #[vp, vf, .int .i64 (s.made : Int)] 41) := (kb Nb (heap_lt h.blk) (apN.2 (by decide))).trans h.blk
  have e : ∀ q, q ≠ Nb → (Y.setCell ⟨Nb, 1, none⟩ vf').heap[q]? = Y.heap[q]? := fun q hq => Below.heap_setCell Y ⟨Nb, 1, none⟩ _ q hq
  have hs : (Y.setCell ⟨Nb, 1, none⟩ vf').heap.size = Y.heap.size := by simp [World.setCell]
  have hmv : Movd X vf vf' := by
    rcases hat with h | h
    · exact Or.inl h
    · exact Or.inr ⟨_, h, Nat.le_refl _⟩
  have hpf : ∀ g, vp.ownBlock = some g → vf.ownBlock ≠ some g := fun g eg => by
    obtain ⟨-, cur, hc⟩ := own_type h.prow eg
    exact (h.apart hc).2 (by decide)
  refine ⟨⟨?_, ?_, ?_, hg.os.trans h.os, hg.tape.trans h.tape, hg.output.trans h.output, by rw [hs]; omega, fun q hq hn => ?_, hnb⟩, ⟨hg.os, hg.tape, hg.output, by rw [hs]; exact gs, fun q hq h1 h2 h3 => (e q h1).trans (kb q hq h3)⟩, hmv⟩
  · simp [World.setCell, Array.getElem?_modify, hbY]
  · refine own_same h.prow (fun g eg => ?_)
    obtain ⟨hB, cur, hc⟩ := own_type h.prow eg
    exact (e g (by omega)).trans (kb g (heap_lt hc) (hpf g eg))
  · have hown2 : Y.ownsRow W0.heap.size 9 1 vf' (s.free ++ [a]).length (strRow (s.free ++ [a])) := by
      rw [strRow_snoc, List.length_append]
      exact hown
    exact own_same hown2 (fun g eg => e g (by have := (own_type hown2 eg).1; omega))
  · refine (e q hn).trans ((kb q (by omega) (fun eq => ?_)).trans (h.kept q hq hn))
    have := (own_type h.frow eq).1
    omega

/-- A node more is named anew. -/
theorem nms_plain {W0 : World} {Nb : Nat} {s : Wst} {vp vf : Value} {X Y : World} (h : Nms W0 Nb s vp vf X) {vp' : Value} {m : Nd} (hown : Y.ownsRow W0.heap.size 29 6 vp' (s.plain.length + 1) (ndRow s.plain ++ [.int .i64 m.kind, .int .i64 m.num, .string m.a, .string m.b, .string m.c, .int .i64 m.kids])) (hg : X.grownBy Y vp.ownBlock) (hat : vp'.ownBlock = vp.ownBlock ∨ vp'.ownBlock = some X.heap.size) :
    Nms W0 Nb ⟨s.plain ++ [m], s.free, s.made⟩ vp' vf (Y.setCell ⟨Nb, 0, none⟩ vp') ∧ Nfr Nb vp vf X (Y.setCell ⟨Nb, 0, none⟩ vp') ∧ Movd X vp vp' := by
  have hnb := h.nb
  have hsz := h.size
  have gs := hg.size
  have apN := h.apart h.blk
  have kb : ∀ q, q < X.heap.size → vp.ownBlock ≠ some q → Y.heap[q]? = X.heap[q]? := fun q hq hn => hg.block q hq (fun e => hn e.symm)
  have hbY : Y.heap[Nb]? = some (.cells #[vp, vf, .int .i64 (s.made : Int)] 41) := (kb Nb (heap_lt h.blk) (apN.1 (by decide))).trans h.blk
  have e : ∀ q, q ≠ Nb → (Y.setCell ⟨Nb, 0, none⟩ vp').heap[q]? = Y.heap[q]? := fun q hq => Below.heap_setCell Y ⟨Nb, 0, none⟩ _ q hq
  have hs : (Y.setCell ⟨Nb, 0, none⟩ vp').heap.size = Y.heap.size := by simp [World.setCell]
  have hmv : Movd X vp vp' := by
    rcases hat with h | h
    · exact Or.inl h
    · exact Or.inr ⟨_, h, Nat.le_refl _⟩
  have hpf : ∀ g, vf.ownBlock = some g → vp.ownBlock ≠ some g := fun g eg => by
    obtain ⟨-, cur, hc⟩ := own_type h.frow eg
    exact (h.apart hc).1 (by decide)
  refine ⟨⟨?_, ?_, ?_, hg.os.trans h.os, hg.tape.trans h.tape, hg.output.trans h.output, by rw [hs]; omega, fun q hq hn => ?_, hnb⟩, ⟨hg.os, hg.tape, hg.output, by rw [hs]; exact gs, fun q hq h1 h2 h3 => (e q h1).trans (kb q hq h2)⟩, hmv⟩
  · simp [World.setCell, Array.getElem?_modify, hbY]
  · have hown2 : Y.ownsRow W0.heap.size 29 6 vp' (s.plain ++ [m]).length (ndRow (s.plain ++ [m])) := by
      rw [ndRow_snoc, List.length_append]
      exact hown
    exact own_same hown2 (fun g eg => e g (by have := (own_type hown2 eg).1; omega))
  · refine own_same h.frow (fun g eg => ?_)
    obtain ⟨hB, cur, hc⟩ := own_type h.frow eg
    exact (e g (by omega)).trans (kb g (heap_lt hc) (hpf g eg))
  · refine (e q hn).trans ((kb q (by omega) (fun eq => ?_)).trans (h.kept q hq hn))
    have := (own_type h.prow eq).1
    omega
end Go.Proofs.YtfmeldjkofoelaaGreatDoor

/- The namer gives a node its new names. -/
namespace Go.Proofs.YtfmeldjkofoelaaGreatDoor
open Go.RowKit Go.Deep

/-- Two new blocks: a node's box, and one for the answer. -/
theorem two_boxes (W : World) (n : Nd) : ∃ X, (W.alloc (.cells #[.int .i64 n.kind, .int .i64 n.num, .string n.a, .string n.b, .string n.c, .int .i64 n.kids] 29)).alloc (.cells #[.int .i64 0, .int .i64 0, .string ⟨#[]⟩, .string ⟨#[]⟩, .string ⟨#[]⟩, .int .i64 0] 29) = X ∧ X.heap[W.heap.size]? = some (.cells #[.int .i64 n.kind, .int .i64 n.num, .string n.a, .string n.b, .string n.c, .int .i64 n.kids] 29) ∧ X.heap[W.heap.size + 1]? = some (.cells #[.int .i64 0, .int .i64 0, .string ⟨#[]⟩, .string ⟨#[]⟩, .string ⟨#[]⟩, .int .i64 0] 29) ∧ Below W.heap.size W X := by
  refine ⟨_, rfl, ?_, ?_, ((Below.refl _ W).alloc (Nat.le_refl _) _).alloc (by simp) _⟩
  · rw [Below.heap_alloc _ _ _ (by simp)]
    exact (MapKept.heap_alloc W _).1
  · have e := (MapKept.heap_alloc (W.alloc (.cells #[.int .i64 n.kind, .int .i64 n.num, .string n.a, .string n.b, .string n.c, .int .i64 n.kids] 29)) (.cells #[.int .i64 0, .int .i64 0, .string ⟨#[]⟩, .string ⟨#[]⟩, .string ⟨#[]⟩, .int .i64 0] 29)).1
    rwa [World.size_alloc] at e

/-- What renaming has come to, ahead of its answer. -/
structure Rnd (W0 : World) (Nb : Nat) (W : World) (vp vf : Value) (s' : Wst) (vf' : Value) (m : Nd) (X : World) : Prop where
  st : Nms W0 Nb s' vp vf' X
  mv : Movd W vf vf'
  fr : Nfr Nb vp vf W X
  b4 : X.heap[W.heap.size]? = some (.cells #[.int .i64 m.kind, .int .i64 m.num, .string m.a, .string m.b, .string m.c, .int .i64 m.kids] 29)
  b6 : X.heap[W.heap.size + 1]? = some (.cells #[.int .i64 0, .int .i64 0, .string ⟨#[]⟩, .string ⟨#[]⟩, .string ⟨#[]⟩, .int .i64 0] 29)

theorem Rnd.put {W0 : World} {Nb : Nat} {W : World} {vp vf : Value} {s' : Wst} {vf' : Value} {m : Nd} {X : World} (h : Rnd W0 Nb W vp vf s' vf' m X) (hw : W0.heap.size ≤ W.heap.size) (hp : ∀ g, vp.ownBlock = some g → g < W.heap.size) {q : Nat} (hq : q = W.heap.size ∨ q = W.heap.size + 1) (i : Nat) (v : Value) :
    Nms W0 Nb s' vp vf' (X.setCell ⟨q, i, none⟩ v) ∧ Nfr Nb vp vf W (X.setCell ⟨q, i, none⟩ v) := by
  have hb : vf'.ownBlock ≠ some q := by
    rcases hq with rfl | rfl
    · exact (h.st.apart h.b4).2 (by decide)
    · exact (h.st.apart h.b6).2 (by decide)
  have hs : (X.setCell ⟨q, i, none⟩ v).heap.size = X.heap.size := by simp [World.setCell]
  refine ⟨nms_box h.st (by omega) (fun e => by have := hp _ e; omega) hb i v, ⟨h.fr.os, h.fr.tape, h.fr.output, by rw [hs]; exact h.fr.size, fun k hk h1 h2 h3 => ?_⟩⟩
  exact (Below.heap_setCell X ⟨q, i, none⟩ v k (by dsimp only; omega)).trans (h.fr.block k hk h1 h2 h3)

theorem Rnd.set2 {W0 : World} {Nb : Nat} {W : World} {vp vf : Value} {s' : Wst} {vf' : Value} {m : Nd} {X : World} (h : Rnd W0 Nb W vp vf s' vf' m X) (hw : W0.heap.size ≤ W.heap.size) (hp : ∀ g, vp.ownBlock = some g → g < W.heap.size) (x : ByteArray) : Rnd W0 Nb W vp vf s' vf' { m with a := x } (X.setCell ⟨W.heap.size, 2, none⟩ (.string x)) := by
  obtain ⟨h1, h2⟩ := h.put hw hp (Or.inl rfl) 2 (.string x)
  exact ⟨h1, h.mv, h2, (box6_set h.b4 _).1, (Below.heap_setCell X _ _ _ (by dsimp only; omega)).trans h.b6⟩

theorem Rnd.set3 {W0 : World} {Nb : Nat} {W : World} {vp vf : Value} {s' : Wst} {vf' : Value} {m : Nd} {X : World} (h : Rnd W0 Nb W vp vf s' vf' m X) (hw : W0.heap.size ≤ W.heap.size) (hp : ∀ g, vp.ownBlock = some g → g < W.heap.size) (x : ByteArray) : Rnd W0 Nb W vp vf s' vf' { m with b := x } (X.setCell ⟨W.heap.size, 3, none⟩ (.string x)) := by
  obtain ⟨h1, h2⟩ := h.put hw hp (Or.inl rfl) 3 (.string x)
  exact ⟨h1, h.mv, h2, (box6_set h.b4 _).2.1, (Below.heap_setCell X _ _ _ (by dsimp only; omega)).trans h.b6⟩

theorem Rnd.set4 {W0 : World} {Nb : Nat} {W : World} {vp vf : Value} {s' : Wst} {vf' : Value} {m : Nd} {X : World} (h : Rnd W0 Nb W vp vf s' vf' m X) (hw : W0.heap.size ≤ W.heap.size) (hp : ∀ g, vp.ownBlock = some g → g < W.heap.size) (x : ByteArray) : Rnd W0 Nb W vp vf s' vf' { m with c := x } (X.setCell ⟨W.heap.size, 4, none⟩ (.string x)) := by
  obtain ⟨h1, h2⟩ := h.put hw hp (Or.inl rfl) 4 (.string x)
  exact ⟨h1, h.mv, h2, (box6_set h.b4 _).2.2, (Below.heap_setCell X _ _ _ (by dsimp only; omega)).trans h.b6⟩

/-- The answer is laid. -/
theorem Rnd.done {W0 : World} {Nb : Nat} {W : World} {vp vf : Value} {s' : Wst} {vf' : Value} {m : Nd} {X : World} (h : Rnd W0 Nb W vp vf s' vf' m X) (hw : W0.heap.size ≤ W.heap.size) (hp : ∀ g, vp.ownBlock = some g → g < W.heap.size) (v0 v1 v2 v3 v4 v5 : Value) :
    Nms W0 Nb s' vp vf' ((((((X.setCell ⟨W.heap.size + 1, 0, none⟩ v0).setCell ⟨W.heap.size + 1, 1, none⟩ v1).setCell ⟨W.heap.size + 1, 2, none⟩ v2).setCell ⟨W.heap.size + 1, 3, none⟩ v3).setCell ⟨W.heap.size + 1, 4, none⟩ v4).setCell ⟨W.heap.size + 1, 5, none⟩ v5) ∧ Nfr Nb vp vf W ((((((X.setCell ⟨W.heap.size + 1, 0, none⟩ v0).setCell ⟨W.heap.size + 1, 1, none⟩ v1).setCell ⟨W.heap.size + 1, 2, none⟩ v2).setCell ⟨W.heap.size + 1, 3, none⟩ v3).setCell ⟨W.heap.size + 1, 4, none⟩ v4).setCell ⟨W.heap.size + 1, 5, none⟩ v5) := by
  have hb : vf'.ownBlock ≠ some (W.heap.size + 1) := (h.st.apart h.b6).2 (by decide)
  have hpn : vp.ownBlock ≠ some (W.heap.size + 1) := fun e => by have := hp _ e; omega
  have hlo : W0.heap.size ≤ W.heap.size + 1 := by omega
  have step : ∀ Y i v, Nms W0 Nb s' vp vf' Y ∧ Nfr Nb vp vf W Y → Nms W0 Nb s' vp vf' (Y.setCell ⟨W.heap.size + 1, i, none⟩ v) ∧ Nfr Nb vp vf W (Y.setCell ⟨W.heap.size + 1, i, none⟩ v) := fun Y i v hy => by
    have hs : (Y.setCell ⟨W.heap.size + 1, i, none⟩ v).heap.size = Y.heap.size := by simp [World.setCell]
    refine ⟨nms_box hy.1 hlo hpn hb i v, ⟨hy.2.os, hy.2.tape, hy.2.output, by rw [hs]; exact hy.2.size, fun k hk h1 h2 h3 => ?_⟩⟩
    exact (Below.heap_setCell Y ⟨W.heap.size + 1, i, none⟩ v k (by dsimp only; omega)).trans (hy.2.block k hk h1 h2 h3)
  have g0 := step X 0 v0 ⟨h.st, h.fr⟩
  have g1 := step _ 1 v1 g0
  have g2 := step _ 2 v2 g1
  have g3 := step _ 3 v3 g2
  have g4 := step _ 4 v4 g3
  exact step _ 5 v5 g4

/-- Behind a call of the namer. -/
theorem Rnd.more {W0 : World} {Nb : Nat} {W : World} {vp vf : Value} {s' : Wst} {vf' : Value} {m : Nd} {X : World} (h : Rnd W0 Nb W vp vf s' vf' m X) (hw : W0.heap.size ≤ W.heap.size) (hp : ∀ g, vp.ownBlock = some g → g < W.heap.size) {Y : World} {s'' : Wst} {vf'' : Value} (hy : Nms W0 Nb s'' vp vf'' Y) (fy : Nfr Nb vp vf' X Y) (hm : Movd X vf' vf'') : Rnd W0 Nb W vp vf s'' vf'' m Y := by
  have hnb := h.st.nb
  exact ⟨hy, h.mv.trans h.fr.size hm, h.fr.trans (Or.inl rfl) h.mv fy, (fy.block _ (heap_lt h.b4) (by omega) (fun e => by have := hp _ e; omega) ((h.st.apart h.b4).2 (by decide))).trans h.b4, (fy.block _ (heap_lt h.b6) (by omega) (fun e => by have := hp _ e; omega) ((h.st.apart h.b6).2 (by decide))).trans h.b6⟩

theorem box6_all {w : World} {b : Nat} {t : TypeId} {x0 x1 x2 x3 x4 x5 : Value} (h : w.heap[b]? = some (.cells #[x0, x1, x2, x3, x4, x5] t)) (v0 v1 v2 v3 v4 v5 : Value) :
    ((((((w.setCell ⟨b, 0, none⟩ v0).setCell ⟨b, 1, none⟩ v1).setCell ⟨b, 2, none⟩ v2).setCell ⟨b, 3, none⟩ v3).setCell ⟨b, 4, none⟩ v4).setCell ⟨b, 5, none⟩ v5).heap[b]? = some (.cells #[v0, v1, v2, v3, v4, v5] t) := by
  simp [World.setCell, Array.getElem?_modify, h]

theorem node_result {tmps : Array Value} {g : Nat} {X : World} {v0 v1 v2 v3 v4 v5 : Value} (hg : tmps.getD 6 undef = .pointer (some ⟨g, 0, none⟩)) (h : X.heap[g]? = some (.cells #[v0, v1, v2, v3, v4, v5] 29)) : (results Tryz.f29 tmps).run Tryz.prog X = .ok (.agg #[v0, v1, v2, v3, v4, v5]) X := by
  rw [Array.getD_eq_getD_getElem?] at hg
  have c0 := cell_of_heap h 0
  have c1 := cell_of_heap h 1
  have c2 := cell_of_heap h 2
  have c3 := cell_of_heap h 3
  have c4 := cell_of_heap h 4
  have c5 := cell_of_heap h 5
  simp at c0 c1 c2 c3 c4 c5
  simp [results, Tryz.results29, go_sem, hg, c0, c1, c2, c3, c4, c5]

set_option maxHeartbeats 8000000 in
set_option maxRecDepth 100000 in
theorem rename_calls {W0 : World} {Nb : Nat} {s : Wst} {vp vf : Value} (n : Nd) (p : Option Addr) (sc : Sco) (W : World) (st : Nms W0 Nb s vp vf W) (hL : Laid W0) (h0 : Nb ≠ 0) (hm : Wsm s) (hsc : ScoAt W p sc) (hna : n.a.size ≤ 281474976710656) :
    Calls Tryz.prog 29 #[.pointer (some ⟨Nb, 0, none⟩), ndV n, .pointer p] W fun e W' => e = .returned (ndV (renZ n sc s.made)) ∧ (∃ vf', Nms W0 Nb ⟨s.plain, s.free ++ lostZ n sc, s.made + makesZ n.kind⟩ vp vf' W' ∧ Movd W vf vf') ∧ Nfr Nb vp vf W W' := by
  have HM := hid hm
  have HNa := hid hna
  obtain ⟨X, hX, b4, b6, hbX⟩ := two_boxes W n
  have HR0 : Hid (Rnd W0 Nb W vp vf s vf n X) := ⟨st.below hbX, Or.inl rfl, Nfr.of_below hbX, b4, b6⟩
  have Hw := hid st.size
  have Hp : Hid (∀ g, vp.ownBlock = some g → g < W.heap.size) := fun g e => by obtain ⟨-, cur, hc⟩ := own_type st.prow e; exact heap_lt hc
  have HLs : Hid (∀ (s' : Wst) (vf' : Value) (Y : World), Nms W0 Nb s' vp vf' Y → Laid Y) := fun s' vf' Y hn => hL.same (hn.kept 0 (by have := hn.nb; omega) (fun e => h0 e.symm))
  have HSc := hid (hsc.below hbX)
  obtain ⟨sp, sf, mm⟩ := s
  obtain ⟨kd, num, a, b, c, kids⟩ := n
  unfold ndV
  dsimp only at *
  clear hL hm st hsc hna b4 b6 hbX
  go_enter Tryz.func29, Tryz.ntmps29
  go_upto_region 1 with fail
  clear hX
  by_cases k6 : kd = 6
  · subst k6
    have HRen : Hid (renZ ⟨6, num, a, b, c, kids⟩ sc mm = ⟨6, num, freshZ mm, b, c, kids⟩) := rfl
    have HSt : Hid ((⟨sp, sf ++ lostZ ⟨6, num, a, b, c, kids⟩ sc, mm + makesZ (⟨6, num, a, b, c, kids⟩ : Nd).kind⟩ : Wst) = ⟨sp, sf, mm + 1⟩) := by
      have e : lostZ ⟨6, num, a, b, c, kids⟩ sc = [] := by unfold lostZ; rw [if_neg (by rintro ⟨h, -⟩; cases h)]
      show _ = _
      rw [e, List.append_nil]
      rfl
    have c0 := cell_of_heap HR0.out.b4 0
    have c1 := cell_of_heap HR0.out.b4 1
    have c2 := cell_of_heap HR0.out.b4 2
    have c3 := cell_of_heap HR0.out.b4 3
    have c4 := cell_of_heap HR0.out.b4 4
    have c5 := cell_of_heap HR0.out.b4 5
    simp at c0 c1 c2 c3 c4 c5
    have z2 := frozen_of_heap HR0.out.b4 2
    have z3 := frozen_of_heap HR0.out.b4 3
    have z4 := frozen_of_heap HR0.out.b4 4
    have e0 := cell_of_heap HR0.out.b6 0
    have y0 := frozen_of_heap HR0.out.b6 0
    have e1 := cell_of_heap HR0.out.b6 1
    have y1 := frozen_of_heap HR0.out.b6 1
    have e2 := cell_of_heap HR0.out.b6 2
    have y2 := frozen_of_heap HR0.out.b6 2
    have e3 := cell_of_heap HR0.out.b6 3
    have y3 := frozen_of_heap HR0.out.b6 3
    have e4 := cell_of_heap HR0.out.b6 4
    have y4 := frozen_of_heap HR0.out.b6 4
    have e5 := cell_of_heap HR0.out.b6 5
    have y5 := frozen_of_heap HR0.out.b6 5
    simp at e0 e1 e2 e3 e4 e5
    go_wp2_with fail
    refine (fresh_calls X HR0.out.st (HLs.out _ _ _ HR0.out.st) h0 (by have := HM.out.made; dsimp only at *; omega)).mono ?_
    rintro e Y ⟨rfl, hN, hF, -⟩
    have HR1 : Hid (Rnd W0 Nb W vp vf ⟨sp, sf, mm + 1⟩ vf ⟨6, num, a, b, c, kids⟩ Y) := HR0.out.more Hw.out Hp.out hN hF (Or.inl rfl)
    clear c0 c1 c2 c3 c4 c5 z2 z3 z4 e0 e1 e2 e3 e4 e5 y0 y1 y2 y3 y4 y5
    clear hN hF
    have c0 := cell_of_heap HR1.out.b4 0
    have c1 := cell_of_heap HR1.out.b4 1
    have c2 := cell_of_heap HR1.out.b4 2
    have c3 := cell_of_heap HR1.out.b4 3
    have c4 := cell_of_heap HR1.out.b4 4
    have c5 := cell_of_heap HR1.out.b4 5
    simp at c0 c1 c2 c3 c4 c5
    have z2 := frozen_of_heap HR1.out.b4 2
    have z3 := frozen_of_heap HR1.out.b4 3
    have z4 := frozen_of_heap HR1.out.b4 4
    have e0 := cell_of_heap HR1.out.b6 0
    have y0 := frozen_of_heap HR1.out.b6 0
    have e1 := cell_of_heap HR1.out.b6 1
    have y1 := frozen_of_heap HR1.out.b6 1
    have e2 := cell_of_heap HR1.out.b6 2
    have y2 := frozen_of_heap HR1.out.b6 2
    have e3 := cell_of_heap HR1.out.b6 3
    have y3 := frozen_of_heap HR1.out.b6 3
    have e4 := cell_of_heap HR1.out.b6 4
    have y4 := frozen_of_heap HR1.out.b6 4
    have e5 := cell_of_heap HR1.out.b6 5
    have y5 := frozen_of_heap HR1.out.b6 5
    simp at e0 e1 e2 e3 e4 e5
    have HR2 := hid (HR1.out.set2 Hw.out Hp.out (freshZ mm))
    generalize freshZ mm = F1 at *
    go_wp2_with fail
    refine bodyPost_ret (v := ndV ⟨6, num, F1, b, c, kids⟩) (node_result (tmps := _) rfl (box6_all HR2.out.b6 _ _ _ _ _ _)) rfl ?_
    obtain ⟨g1, g3⟩ := HR2.out.done Hw.out Hp.out (.int .i64 6) (.int .i64 num) (.string F1) (.string b) (.string c) (.int .i64 kids)
    refine ⟨?_, ⟨_, ?_, HR2.out.mv⟩, g3⟩
    · rw [HRen.out]
      rfl
    · rw [HSt.out]
      exact g1
  by_cases k8 : kd = 8
  · subst k8
    have HRen : Hid (renZ ⟨8, num, a, b, c, kids⟩ sc mm = ⟨8, num, freshZ mm, b, c, kids⟩) := rfl
    have HSt : Hid ((⟨sp, sf ++ lostZ ⟨8, num, a, b, c, kids⟩ sc, mm + makesZ (⟨8, num, a, b, c, kids⟩ : Nd).kind⟩ : Wst) = ⟨sp, sf, mm + 1⟩) := by
      have e : lostZ ⟨8, num, a, b, c, kids⟩ sc = [] := by unfold lostZ; rw [if_neg (by rintro ⟨h, -⟩; cases h)]
      show _ = _
      rw [e, List.append_nil]
      rfl
    have c0 := cell_of_heap HR0.out.b4 0
    have c1 := cell_of_heap HR0.out.b4 1
    have c2 := cell_of_heap HR0.out.b4 2
    have c3 := cell_of_heap HR0.out.b4 3
    have c4 := cell_of_heap HR0.out.b4 4
    have c5 := cell_of_heap HR0.out.b4 5
    simp at c0 c1 c2 c3 c4 c5
    have z2 := frozen_of_heap HR0.out.b4 2
    have z3 := frozen_of_heap HR0.out.b4 3
    have z4 := frozen_of_heap HR0.out.b4 4
    have e0 := cell_of_heap HR0.out.b6 0
    have y0 := frozen_of_heap HR0.out.b6 0
    have e1 := cell_of_heap HR0.out.b6 1
    have y1 := frozen_of_heap HR0.out.b6 1
    have e2 := cell_of_heap HR0.out.b6 2
    have y2 := frozen_of_heap HR0.out.b6 2
    have e3 := cell_of_heap HR0.out.b6 3
    have y3 := frozen_of_heap HR0.out.b6 3
    have e4 := cell_of_heap HR0.out.b6 4
    have y4 := frozen_of_heap HR0.out.b6 4
    have e5 := cell_of_heap HR0.out.b6 5
    have y5 := frozen_of_heap HR0.out.b6 5
    simp at e0 e1 e2 e3 e4 e5
    go_wp2_with fail
    refine (fresh_calls X HR0.out.st (HLs.out _ _ _ HR0.out.st) h0 (by have := HM.out.made; dsimp only at *; omega)).mono ?_
    rintro e Y ⟨rfl, hN, hF, -⟩
    have HR1 : Hid (Rnd W0 Nb W vp vf ⟨sp, sf, mm + 1⟩ vf ⟨8, num, a, b, c, kids⟩ Y) := HR0.out.more Hw.out Hp.out hN hF (Or.inl rfl)
    clear c0 c1 c2 c3 c4 c5 z2 z3 z4 e0 e1 e2 e3 e4 e5 y0 y1 y2 y3 y4 y5
    clear hN hF
    have c0 := cell_of_heap HR1.out.b4 0
    have c1 := cell_of_heap HR1.out.b4 1
    have c2 := cell_of_heap HR1.out.b4 2
    have c3 := cell_of_heap HR1.out.b4 3
    have c4 := cell_of_heap HR1.out.b4 4
    have c5 := cell_of_heap HR1.out.b4 5
    simp at c0 c1 c2 c3 c4 c5
    have z2 := frozen_of_heap HR1.out.b4 2
    have z3 := frozen_of_heap HR1.out.b4 3
    have z4 := frozen_of_heap HR1.out.b4 4
    have e0 := cell_of_heap HR1.out.b6 0
    have y0 := frozen_of_heap HR1.out.b6 0
    have e1 := cell_of_heap HR1.out.b6 1
    have y1 := frozen_of_heap HR1.out.b6 1
    have e2 := cell_of_heap HR1.out.b6 2
    have y2 := frozen_of_heap HR1.out.b6 2
    have e3 := cell_of_heap HR1.out.b6 3
    have y3 := frozen_of_heap HR1.out.b6 3
    have e4 := cell_of_heap HR1.out.b6 4
    have y4 := frozen_of_heap HR1.out.b6 4
    have e5 := cell_of_heap HR1.out.b6 5
    have y5 := frozen_of_heap HR1.out.b6 5
    simp at e0 e1 e2 e3 e4 e5
    have HR2 := hid (HR1.out.set2 Hw.out Hp.out (freshZ mm))
    generalize freshZ mm = F1 at *
    go_wp2_with fail
    refine bodyPost_ret (v := ndV ⟨8, num, F1, b, c, kids⟩) (node_result (tmps := _) rfl (box6_all HR2.out.b6 _ _ _ _ _ _)) rfl ?_
    obtain ⟨g1, g3⟩ := HR2.out.done Hw.out Hp.out (.int .i64 8) (.int .i64 num) (.string F1) (.string b) (.string c) (.int .i64 kids)
    refine ⟨?_, ⟨_, ?_, HR2.out.mv⟩, g3⟩
    · rw [HRen.out]
      rfl
    · rw [HSt.out]
      exact g1
  by_cases k25 : kd = 25
  · subst k25
    have HRen : Hid (renZ ⟨25, num, a, b, c, kids⟩ sc mm = ⟨25, num, freshZ mm, b, c, kids⟩) := rfl
    have HSt : Hid ((⟨sp, sf ++ lostZ ⟨25, num, a, b, c, kids⟩ sc, mm + makesZ (⟨25, num, a, b, c, kids⟩ : Nd).kind⟩ : Wst) = ⟨sp, sf, mm + 1⟩) := by
      have e : lostZ ⟨25, num, a, b, c, kids⟩ sc = [] := by unfold lostZ; rw [if_neg (by rintro ⟨h, -⟩; cases h)]
      show _ = _
      rw [e, List.append_nil]
      rfl
    have c0 := cell_of_heap HR0.out.b4 0
    have c1 := cell_of_heap HR0.out.b4 1
    have c2 := cell_of_heap HR0.out.b4 2
    have c3 := cell_of_heap HR0.out.b4 3
    have c4 := cell_of_heap HR0.out.b4 4
    have c5 := cell_of_heap HR0.out.b4 5
    simp at c0 c1 c2 c3 c4 c5
    have z2 := frozen_of_heap HR0.out.b4 2
    have z3 := frozen_of_heap HR0.out.b4 3
    have z4 := frozen_of_heap HR0.out.b4 4
    have e0 := cell_of_heap HR0.out.b6 0
    have y0 := frozen_of_heap HR0.out.b6 0
    have e1 := cell_of_heap HR0.out.b6 1
    have y1 := frozen_of_heap HR0.out.b6 1
    have e2 := cell_of_heap HR0.out.b6 2
    have y2 := frozen_of_heap HR0.out.b6 2
    have e3 := cell_of_heap HR0.out.b6 3
    have y3 := frozen_of_heap HR0.out.b6 3
    have e4 := cell_of_heap HR0.out.b6 4
    have y4 := frozen_of_heap HR0.out.b6 4
    have e5 := cell_of_heap HR0.out.b6 5
    have y5 := frozen_of_heap HR0.out.b6 5
    simp at e0 e1 e2 e3 e4 e5
    go_wp2_with fail
    refine (fresh_calls X HR0.out.st (HLs.out _ _ _ HR0.out.st) h0 (by have := HM.out.made; dsimp only at *; omega)).mono ?_
    rintro e Y ⟨rfl, hN, hF, -⟩
    have HR1 : Hid (Rnd W0 Nb W vp vf ⟨sp, sf, mm + 1⟩ vf ⟨25, num, a, b, c, kids⟩ Y) := HR0.out.more Hw.out Hp.out hN hF (Or.inl rfl)
    clear c0 c1 c2 c3 c4 c5 z2 z3 z4 e0 e1 e2 e3 e4 e5 y0 y1 y2 y3 y4 y5
    clear hN hF
    have c0 := cell_of_heap HR1.out.b4 0
    have c1 := cell_of_heap HR1.out.b4 1
    have c2 := cell_of_heap HR1.out.b4 2
    have c3 := cell_of_heap HR1.out.b4 3
    have c4 := cell_of_heap HR1.out.b4 4
    have c5 := cell_of_heap HR1.out.b4 5
    simp at c0 c1 c2 c3 c4 c5
    have z2 := frozen_of_heap HR1.out.b4 2
    have z3 := frozen_of_heap HR1.out.b4 3
    have z4 := frozen_of_heap HR1.out.b4 4
    have e0 := cell_of_heap HR1.out.b6 0
    have y0 := frozen_of_heap HR1.out.b6 0
    have e1 := cell_of_heap HR1.out.b6 1
    have y1 := frozen_of_heap HR1.out.b6 1
    have e2 := cell_of_heap HR1.out.b6 2
    have y2 := frozen_of_heap HR1.out.b6 2
    have e3 := cell_of_heap HR1.out.b6 3
    have y3 := frozen_of_heap HR1.out.b6 3
    have e4 := cell_of_heap HR1.out.b6 4
    have y4 := frozen_of_heap HR1.out.b6 4
    have e5 := cell_of_heap HR1.out.b6 5
    have y5 := frozen_of_heap HR1.out.b6 5
    simp at e0 e1 e2 e3 e4 e5
    have HR2 := hid (HR1.out.set2 Hw.out Hp.out (freshZ mm))
    generalize freshZ mm = F1 at *
    go_wp2_with fail
    refine bodyPost_ret (v := ndV ⟨25, num, F1, b, c, kids⟩) (node_result (tmps := _) rfl (box6_all HR2.out.b6 _ _ _ _ _ _)) rfl ?_
    obtain ⟨g1, g3⟩ := HR2.out.done Hw.out Hp.out (.int .i64 25) (.int .i64 num) (.string F1) (.string b) (.string c) (.int .i64 kids)
    refine ⟨?_, ⟨_, ?_, HR2.out.mv⟩, g3⟩
    · rw [HRen.out]
      rfl
    · rw [HSt.out]
      exact g1
  by_cases k9 : kd = 9
  · subst k9
    have HRen : Hid (renZ ⟨9, num, a, b, c, kids⟩ sc mm = ⟨9, num, freshZ mm, freshZ (mm + 1), c, kids⟩) := rfl
    have HSt : Hid ((⟨sp, sf ++ lostZ ⟨9, num, a, b, c, kids⟩ sc, mm + makesZ (⟨9, num, a, b, c, kids⟩ : Nd).kind⟩ : Wst) = ⟨sp, sf, mm + 2⟩) := by
      have e : lostZ ⟨9, num, a, b, c, kids⟩ sc = [] := by unfold lostZ; rw [if_neg (by rintro ⟨h, -⟩; cases h)]
      show _ = _
      rw [e, List.append_nil]
      rfl
    have c0 := cell_of_heap HR0.out.b4 0
    have c1 := cell_of_heap HR0.out.b4 1
    have c2 := cell_of_heap HR0.out.b4 2
    have c3 := cell_of_heap HR0.out.b4 3
    have c4 := cell_of_heap HR0.out.b4 4
    have c5 := cell_of_heap HR0.out.b4 5
    simp at c0 c1 c2 c3 c4 c5
    have z2 := frozen_of_heap HR0.out.b4 2
    have z3 := frozen_of_heap HR0.out.b4 3
    have z4 := frozen_of_heap HR0.out.b4 4
    have e0 := cell_of_heap HR0.out.b6 0
    have y0 := frozen_of_heap HR0.out.b6 0
    have e1 := cell_of_heap HR0.out.b6 1
    have y1 := frozen_of_heap HR0.out.b6 1
    have e2 := cell_of_heap HR0.out.b6 2
    have y2 := frozen_of_heap HR0.out.b6 2
    have e3 := cell_of_heap HR0.out.b6 3
    have y3 := frozen_of_heap HR0.out.b6 3
    have e4 := cell_of_heap HR0.out.b6 4
    have y4 := frozen_of_heap HR0.out.b6 4
    have e5 := cell_of_heap HR0.out.b6 5
    have y5 := frozen_of_heap HR0.out.b6 5
    simp at e0 e1 e2 e3 e4 e5
    go_wp2_with fail
    refine (fresh_calls X HR0.out.st (HLs.out _ _ _ HR0.out.st) h0 (by have := HM.out.made; dsimp only at *; omega)).mono ?_
    rintro e Y ⟨rfl, hN, hF, -⟩
    have HR1 : Hid (Rnd W0 Nb W vp vf ⟨sp, sf, mm + 1⟩ vf ⟨9, num, a, b, c, kids⟩ Y) := HR0.out.more Hw.out Hp.out hN hF (Or.inl rfl)
    clear c0 c1 c2 c3 c4 c5 z2 z3 z4 e0 e1 e2 e3 e4 e5 y0 y1 y2 y3 y4 y5
    clear hN hF
    have c0 := cell_of_heap HR1.out.b4 0
    have c1 := cell_of_heap HR1.out.b4 1
    have c2 := cell_of_heap HR1.out.b4 2
    have c3 := cell_of_heap HR1.out.b4 3
    have c4 := cell_of_heap HR1.out.b4 4
    have c5 := cell_of_heap HR1.out.b4 5
    simp at c0 c1 c2 c3 c4 c5
    have z2 := frozen_of_heap HR1.out.b4 2
    have z3 := frozen_of_heap HR1.out.b4 3
    have z4 := frozen_of_heap HR1.out.b4 4
    have e0 := cell_of_heap HR1.out.b6 0
    have y0 := frozen_of_heap HR1.out.b6 0
    have e1 := cell_of_heap HR1.out.b6 1
    have y1 := frozen_of_heap HR1.out.b6 1
    have e2 := cell_of_heap HR1.out.b6 2
    have y2 := frozen_of_heap HR1.out.b6 2
    have e3 := cell_of_heap HR1.out.b6 3
    have y3 := frozen_of_heap HR1.out.b6 3
    have e4 := cell_of_heap HR1.out.b6 4
    have y4 := frozen_of_heap HR1.out.b6 4
    have e5 := cell_of_heap HR1.out.b6 5
    have y5 := frozen_of_heap HR1.out.b6 5
    simp at e0 e1 e2 e3 e4 e5
    have HR2 := hid (HR1.out.set2 Hw.out Hp.out (freshZ mm))
    have hW2 : ∃ Y2, Y.setCell ⟨W.heap.size, 2, none⟩ (.string (freshZ mm)) = Y2 := ⟨_, rfl⟩
    obtain ⟨Y2, hY2⟩ := hW2
    rw [hY2] at HR2
    have HF1 : Hid (freshZ mm = freshZ mm) := rfl
    generalize freshZ mm = F1 at *
    go_upto_region 14 with fail
    clear c0 c1 c2 c3 c4 c5 z2 z3 z4 e0 e1 e2 e3 e4 e5 y0 y1 y2 y3 y4 y5
    clear hY2 HR1
    have c0 := cell_of_heap HR2.out.b4 0
    have c1 := cell_of_heap HR2.out.b4 1
    have c2 := cell_of_heap HR2.out.b4 2
    have c3 := cell_of_heap HR2.out.b4 3
    have c4 := cell_of_heap HR2.out.b4 4
    have c5 := cell_of_heap HR2.out.b4 5
    simp at c0 c1 c2 c3 c4 c5
    have z2 := frozen_of_heap HR2.out.b4 2
    have z3 := frozen_of_heap HR2.out.b4 3
    have z4 := frozen_of_heap HR2.out.b4 4
    have e0 := cell_of_heap HR2.out.b6 0
    have y0 := frozen_of_heap HR2.out.b6 0
    have e1 := cell_of_heap HR2.out.b6 1
    have y1 := frozen_of_heap HR2.out.b6 1
    have e2 := cell_of_heap HR2.out.b6 2
    have y2 := frozen_of_heap HR2.out.b6 2
    have e3 := cell_of_heap HR2.out.b6 3
    have y3 := frozen_of_heap HR2.out.b6 3
    have e4 := cell_of_heap HR2.out.b6 4
    have y4 := frozen_of_heap HR2.out.b6 4
    have e5 := cell_of_heap HR2.out.b6 5
    have y5 := frozen_of_heap HR2.out.b6 5
    simp at e0 e1 e2 e3 e4 e5
    go_wp2_with fail
    refine (fresh_calls Y2 HR2.out.st (HLs.out _ _ _ HR2.out.st) h0 (by have := HM.out.made; dsimp only at *; omega)).mono ?_
    rintro e Y3 ⟨rfl, hN, hF, -⟩
    have HR3 : Hid (Rnd W0 Nb W vp vf ⟨sp, sf, mm + 1 + 1⟩ vf ⟨9, num, F1, b, c, kids⟩ Y3) := HR2.out.more Hw.out Hp.out hN hF (Or.inl rfl)
    clear c0 c1 c2 c3 c4 c5 z2 z3 z4 e0 e1 e2 e3 e4 e5 y0 y1 y2 y3 y4 y5
    clear hN hF
    have c0 := cell_of_heap HR3.out.b4 0
    have c1 := cell_of_heap HR3.out.b4 1
    have c2 := cell_of_heap HR3.out.b4 2
    have c3 := cell_of_heap HR3.out.b4 3
    have c4 := cell_of_heap HR3.out.b4 4
    have c5 := cell_of_heap HR3.out.b4 5
    simp at c0 c1 c2 c3 c4 c5
    have z2 := frozen_of_heap HR3.out.b4 2
    have z3 := frozen_of_heap HR3.out.b4 3
    have z4 := frozen_of_heap HR3.out.b4 4
    have e0 := cell_of_heap HR3.out.b6 0
    have y0 := frozen_of_heap HR3.out.b6 0
    have e1 := cell_of_heap HR3.out.b6 1
    have y1 := frozen_of_heap HR3.out.b6 1
    have e2 := cell_of_heap HR3.out.b6 2
    have y2 := frozen_of_heap HR3.out.b6 2
    have e3 := cell_of_heap HR3.out.b6 3
    have y3 := frozen_of_heap HR3.out.b6 3
    have e4 := cell_of_heap HR3.out.b6 4
    have y4 := frozen_of_heap HR3.out.b6 4
    have e5 := cell_of_heap HR3.out.b6 5
    have y5 := frozen_of_heap HR3.out.b6 5
    simp at e0 e1 e2 e3 e4 e5
    have HR4 := hid (HR3.out.set3 Hw.out Hp.out (freshZ (mm + 1)))
    generalize freshZ (mm + 1) = F2 at *
    go_wp2_with fail
    refine bodyPost_ret (v := ndV ⟨9, num, F1, F2, c, kids⟩) (node_result (tmps := _) rfl (box6_all HR4.out.b6 _ _ _ _ _ _)) rfl ?_
    obtain ⟨g1, g3⟩ := HR4.out.done Hw.out Hp.out (.int .i64 9) (.int .i64 num) (.string F1) (.string F2) (.string c) (.int .i64 kids)
    refine ⟨?_, ⟨_, ?_, HR4.out.mv⟩, g3⟩
    · rw [HRen.out]
      rfl
    · rw [HSt.out]
      exact g1
  by_cases k20 : kd = 20
  · subst k20
    have HRen : Hid (renZ ⟨20, num, a, b, c, kids⟩ sc mm = ⟨20, num, freshZ mm, freshZ (mm + 1), c, kids⟩) := rfl
    have HSt : Hid ((⟨sp, sf ++ lostZ ⟨20, num, a, b, c, kids⟩ sc, mm + makesZ (⟨20, num, a, b, c, kids⟩ : Nd).kind⟩ : Wst) = ⟨sp, sf, mm + 2⟩) := by
      have e : lostZ ⟨20, num, a, b, c, kids⟩ sc = [] := by unfold lostZ; rw [if_neg (by rintro ⟨h, -⟩; cases h)]
      show _ = _
      rw [e, List.append_nil]
      rfl
    have c0 := cell_of_heap HR0.out.b4 0
    have c1 := cell_of_heap HR0.out.b4 1
    have c2 := cell_of_heap HR0.out.b4 2
    have c3 := cell_of_heap HR0.out.b4 3
    have c4 := cell_of_heap HR0.out.b4 4
    have c5 := cell_of_heap HR0.out.b4 5
    simp at c0 c1 c2 c3 c4 c5
    have z2 := frozen_of_heap HR0.out.b4 2
    have z3 := frozen_of_heap HR0.out.b4 3
    have z4 := frozen_of_heap HR0.out.b4 4
    have e0 := cell_of_heap HR0.out.b6 0
    have y0 := frozen_of_heap HR0.out.b6 0
    have e1 := cell_of_heap HR0.out.b6 1
    have y1 := frozen_of_heap HR0.out.b6 1
    have e2 := cell_of_heap HR0.out.b6 2
    have y2 := frozen_of_heap HR0.out.b6 2
    have e3 := cell_of_heap HR0.out.b6 3
    have y3 := frozen_of_heap HR0.out.b6 3
    have e4 := cell_of_heap HR0.out.b6 4
    have y4 := frozen_of_heap HR0.out.b6 4
    have e5 := cell_of_heap HR0.out.b6 5
    have y5 := frozen_of_heap HR0.out.b6 5
    simp at e0 e1 e2 e3 e4 e5
    go_wp2_with fail
    refine (fresh_calls X HR0.out.st (HLs.out _ _ _ HR0.out.st) h0 (by have := HM.out.made; dsimp only at *; omega)).mono ?_
    rintro e Y ⟨rfl, hN, hF, -⟩
    have HR1 : Hid (Rnd W0 Nb W vp vf ⟨sp, sf, mm + 1⟩ vf ⟨20, num, a, b, c, kids⟩ Y) := HR0.out.more Hw.out Hp.out hN hF (Or.inl rfl)
    clear c0 c1 c2 c3 c4 c5 z2 z3 z4 e0 e1 e2 e3 e4 e5 y0 y1 y2 y3 y4 y5
    clear hN hF
    have c0 := cell_of_heap HR1.out.b4 0
    have c1 := cell_of_heap HR1.out.b4 1
    have c2 := cell_of_heap HR1.out.b4 2
    have c3 := cell_of_heap HR1.out.b4 3
    have c4 := cell_of_heap HR1.out.b4 4
    have c5 := cell_of_heap HR1.out.b4 5
    simp at c0 c1 c2 c3 c4 c5
    have z2 := frozen_of_heap HR1.out.b4 2
    have z3 := frozen_of_heap HR1.out.b4 3
    have z4 := frozen_of_heap HR1.out.b4 4
    have e0 := cell_of_heap HR1.out.b6 0
    have y0 := frozen_of_heap HR1.out.b6 0
    have e1 := cell_of_heap HR1.out.b6 1
    have y1 := frozen_of_heap HR1.out.b6 1
    have e2 := cell_of_heap HR1.out.b6 2
    have y2 := frozen_of_heap HR1.out.b6 2
    have e3 := cell_of_heap HR1.out.b6 3
    have y3 := frozen_of_heap HR1.out.b6 3
    have e4 := cell_of_heap HR1.out.b6 4
    have y4 := frozen_of_heap HR1.out.b6 4
    have e5 := cell_of_heap HR1.out.b6 5
    have y5 := frozen_of_heap HR1.out.b6 5
    simp at e0 e1 e2 e3 e4 e5
    have HR2 := hid (HR1.out.set2 Hw.out Hp.out (freshZ mm))
    have hW2 : ∃ Y2, Y.setCell ⟨W.heap.size, 2, none⟩ (.string (freshZ mm)) = Y2 := ⟨_, rfl⟩
    obtain ⟨Y2, hY2⟩ := hW2
    rw [hY2] at HR2
    have HF1 : Hid (freshZ mm = freshZ mm) := rfl
    generalize freshZ mm = F1 at *
    go_upto_region 14 with fail
    clear c0 c1 c2 c3 c4 c5 z2 z3 z4 e0 e1 e2 e3 e4 e5 y0 y1 y2 y3 y4 y5
    clear hY2 HR1
    have c0 := cell_of_heap HR2.out.b4 0
    have c1 := cell_of_heap HR2.out.b4 1
    have c2 := cell_of_heap HR2.out.b4 2
    have c3 := cell_of_heap HR2.out.b4 3
    have c4 := cell_of_heap HR2.out.b4 4
    have c5 := cell_of_heap HR2.out.b4 5
    simp at c0 c1 c2 c3 c4 c5
    have z2 := frozen_of_heap HR2.out.b4 2
    have z3 := frozen_of_heap HR2.out.b4 3
    have z4 := frozen_of_heap HR2.out.b4 4
    have e0 := cell_of_heap HR2.out.b6 0
    have y0 := frozen_of_heap HR2.out.b6 0
    have e1 := cell_of_heap HR2.out.b6 1
    have y1 := frozen_of_heap HR2.out.b6 1
    have e2 := cell_of_heap HR2.out.b6 2
    have y2 := frozen_of_heap HR2.out.b6 2
    have e3 := cell_of_heap HR2.out.b6 3
    have y3 := frozen_of_heap HR2.out.b6 3
    have e4 := cell_of_heap HR2.out.b6 4
    have y4 := frozen_of_heap HR2.out.b6 4
    have e5 := cell_of_heap HR2.out.b6 5
    have y5 := frozen_of_heap HR2.out.b6 5
    simp at e0 e1 e2 e3 e4 e5
    go_wp2_with fail
    refine (fresh_calls Y2 HR2.out.st (HLs.out _ _ _ HR2.out.st) h0 (by have := HM.out.made; dsimp only at *; omega)).mono ?_
    rintro e Y3 ⟨rfl, hN, hF, -⟩
    have HR3 : Hid (Rnd W0 Nb W vp vf ⟨sp, sf, mm + 1 + 1⟩ vf ⟨20, num, F1, b, c, kids⟩ Y3) := HR2.out.more Hw.out Hp.out hN hF (Or.inl rfl)
    clear c0 c1 c2 c3 c4 c5 z2 z3 z4 e0 e1 e2 e3 e4 e5 y0 y1 y2 y3 y4 y5
    clear hN hF
    have c0 := cell_of_heap HR3.out.b4 0
    have c1 := cell_of_heap HR3.out.b4 1
    have c2 := cell_of_heap HR3.out.b4 2
    have c3 := cell_of_heap HR3.out.b4 3
    have c4 := cell_of_heap HR3.out.b4 4
    have c5 := cell_of_heap HR3.out.b4 5
    simp at c0 c1 c2 c3 c4 c5
    have z2 := frozen_of_heap HR3.out.b4 2
    have z3 := frozen_of_heap HR3.out.b4 3
    have z4 := frozen_of_heap HR3.out.b4 4
    have e0 := cell_of_heap HR3.out.b6 0
    have y0 := frozen_of_heap HR3.out.b6 0
    have e1 := cell_of_heap HR3.out.b6 1
    have y1 := frozen_of_heap HR3.out.b6 1
    have e2 := cell_of_heap HR3.out.b6 2
    have y2 := frozen_of_heap HR3.out.b6 2
    have e3 := cell_of_heap HR3.out.b6 3
    have y3 := frozen_of_heap HR3.out.b6 3
    have e4 := cell_of_heap HR3.out.b6 4
    have y4 := frozen_of_heap HR3.out.b6 4
    have e5 := cell_of_heap HR3.out.b6 5
    have y5 := frozen_of_heap HR3.out.b6 5
    simp at e0 e1 e2 e3 e4 e5
    have HR4 := hid (HR3.out.set3 Hw.out Hp.out (freshZ (mm + 1)))
    generalize freshZ (mm + 1) = F2 at *
    go_wp2_with fail
    refine bodyPost_ret (v := ndV ⟨20, num, F1, F2, c, kids⟩) (node_result (tmps := _) rfl (box6_all HR4.out.b6 _ _ _ _ _ _)) rfl ?_
    obtain ⟨g1, g3⟩ := HR4.out.done Hw.out Hp.out (.int .i64 20) (.int .i64 num) (.string F1) (.string F2) (.string c) (.int .i64 kids)
    refine ⟨?_, ⟨_, ?_, HR4.out.mv⟩, g3⟩
    · rw [HRen.out]
      rfl
    · rw [HSt.out]
      exact g1
  by_cases k22 : kd = 22
  · subst k22
    have HRen : Hid (renZ ⟨22, num, a, b, c, kids⟩ sc mm = ⟨22, num, a, b, c, kids⟩) := rfl
    have HSt : Hid ((⟨sp, sf ++ lostZ ⟨22, num, a, b, c, kids⟩ sc, mm + makesZ (⟨22, num, a, b, c, kids⟩ : Nd).kind⟩ : Wst) = ⟨sp, sf, mm⟩) := by
      have e : lostZ ⟨22, num, a, b, c, kids⟩ sc = [] := by unfold lostZ; rw [if_neg (by rintro ⟨h, -⟩; cases h)]
      show _ = _
      rw [e, List.append_nil]
      rfl
    have c0 := cell_of_heap HR0.out.b4 0
    have c1 := cell_of_heap HR0.out.b4 1
    have c2 := cell_of_heap HR0.out.b4 2
    have c3 := cell_of_heap HR0.out.b4 3
    have c4 := cell_of_heap HR0.out.b4 4
    have c5 := cell_of_heap HR0.out.b4 5
    simp at c0 c1 c2 c3 c4 c5
    have z2 := frozen_of_heap HR0.out.b4 2
    have z3 := frozen_of_heap HR0.out.b4 3
    have z4 := frozen_of_heap HR0.out.b4 4
    have e0 := cell_of_heap HR0.out.b6 0
    have y0 := frozen_of_heap HR0.out.b6 0
    have e1 := cell_of_heap HR0.out.b6 1
    have y1 := frozen_of_heap HR0.out.b6 1
    have e2 := cell_of_heap HR0.out.b6 2
    have y2 := frozen_of_heap HR0.out.b6 2
    have e3 := cell_of_heap HR0.out.b6 3
    have y3 := frozen_of_heap HR0.out.b6 3
    have e4 := cell_of_heap HR0.out.b6 4
    have y4 := frozen_of_heap HR0.out.b6 4
    have e5 := cell_of_heap HR0.out.b6 5
    have y5 := frozen_of_heap HR0.out.b6 5
    simp at e0 e1 e2 e3 e4 e5
    go_wp2_with fail
    refine (clone_calls a _ HNa.out).mono ?_
    rintro e Y ⟨rfl, hb⟩
    have HR1 : Hid (Rnd W0 Nb W vp vf ⟨sp, sf, mm⟩ vf ⟨22, num, a, b, c, kids⟩ Y) := HR0.out.more Hw.out Hp.out (HR0.out.st.below hb) (Nfr.of_below hb) (Or.inl rfl)
    clear c0 c1 c2 c3 c4 c5 z2 z3 z4 e0 e1 e2 e3 e4 e5 y0 y1 y2 y3 y4 y5
    clear hb
    have c0 := cell_of_heap HR1.out.b4 0
    have c1 := cell_of_heap HR1.out.b4 1
    have c2 := cell_of_heap HR1.out.b4 2
    have c3 := cell_of_heap HR1.out.b4 3
    have c4 := cell_of_heap HR1.out.b4 4
    have c5 := cell_of_heap HR1.out.b4 5
    simp at c0 c1 c2 c3 c4 c5
    have z2 := frozen_of_heap HR1.out.b4 2
    have z3 := frozen_of_heap HR1.out.b4 3
    have z4 := frozen_of_heap HR1.out.b4 4
    have e0 := cell_of_heap HR1.out.b6 0
    have y0 := frozen_of_heap HR1.out.b6 0
    have e1 := cell_of_heap HR1.out.b6 1
    have y1 := frozen_of_heap HR1.out.b6 1
    have e2 := cell_of_heap HR1.out.b6 2
    have y2 := frozen_of_heap HR1.out.b6 2
    have e3 := cell_of_heap HR1.out.b6 3
    have y3 := frozen_of_heap HR1.out.b6 3
    have e4 := cell_of_heap HR1.out.b6 4
    have y4 := frozen_of_heap HR1.out.b6 4
    have e5 := cell_of_heap HR1.out.b6 5
    have y5 := frozen_of_heap HR1.out.b6 5
    simp at e0 e1 e2 e3 e4 e5
    have HR2 := hid (HR1.out.set2 Hw.out Hp.out a)
    go_wp2_with fail
    refine bodyPost_ret (v := ndV ⟨22, num, a, b, c, kids⟩) (node_result (tmps := _) rfl (box6_all HR2.out.b6 _ _ _ _ _ _)) rfl ?_
    obtain ⟨g1, g3⟩ := HR2.out.done Hw.out Hp.out (.int .i64 22) (.int .i64 num) (.string a) (.string b) (.string c) (.int .i64 kids)
    refine ⟨?_, ⟨_, ?_, HR2.out.mv⟩, g3⟩
    · rw [HRen.out]
      rfl
    · rw [HSt.out]
      exact g1
  by_cases k26 : kd = 26
  · subst k26
    have HRen : Hid (renZ ⟨26, num, a, b, c, kids⟩ sc mm = ⟨26, num, a, freshZ mm, freshZ (mm + 1), kids⟩) := rfl
    have HSt : Hid ((⟨sp, sf ++ lostZ ⟨26, num, a, b, c, kids⟩ sc, mm + makesZ (⟨26, num, a, b, c, kids⟩ : Nd).kind⟩ : Wst) = ⟨sp, sf, mm + 2⟩) := by
      have e : lostZ ⟨26, num, a, b, c, kids⟩ sc = [] := by unfold lostZ; rw [if_neg (by rintro ⟨h, -⟩; cases h)]
      show _ = _
      rw [e, List.append_nil]
      rfl
    have c0 := cell_of_heap HR0.out.b4 0
    have c1 := cell_of_heap HR0.out.b4 1
    have c2 := cell_of_heap HR0.out.b4 2
    have c3 := cell_of_heap HR0.out.b4 3
    have c4 := cell_of_heap HR0.out.b4 4
    have c5 := cell_of_heap HR0.out.b4 5
    simp at c0 c1 c2 c3 c4 c5
    have z2 := frozen_of_heap HR0.out.b4 2
    have z3 := frozen_of_heap HR0.out.b4 3
    have z4 := frozen_of_heap HR0.out.b4 4
    have e0 := cell_of_heap HR0.out.b6 0
    have y0 := frozen_of_heap HR0.out.b6 0
    have e1 := cell_of_heap HR0.out.b6 1
    have y1 := frozen_of_heap HR0.out.b6 1
    have e2 := cell_of_heap HR0.out.b6 2
    have y2 := frozen_of_heap HR0.out.b6 2
    have e3 := cell_of_heap HR0.out.b6 3
    have y3 := frozen_of_heap HR0.out.b6 3
    have e4 := cell_of_heap HR0.out.b6 4
    have y4 := frozen_of_heap HR0.out.b6 4
    have e5 := cell_of_heap HR0.out.b6 5
    have y5 := frozen_of_heap HR0.out.b6 5
    simp at e0 e1 e2 e3 e4 e5
    go_wp2_with fail
    refine (clone_calls a _ HNa.out).mono ?_
    rintro e Y ⟨rfl, hb⟩
    have HR1 : Hid (Rnd W0 Nb W vp vf ⟨sp, sf, mm⟩ vf ⟨26, num, a, b, c, kids⟩ Y) := HR0.out.more Hw.out Hp.out (HR0.out.st.below hb) (Nfr.of_below hb) (Or.inl rfl)
    clear c0 c1 c2 c3 c4 c5 z2 z3 z4 e0 e1 e2 e3 e4 e5 y0 y1 y2 y3 y4 y5
    clear hb
    have c0 := cell_of_heap HR1.out.b4 0
    have c1 := cell_of_heap HR1.out.b4 1
    have c2 := cell_of_heap HR1.out.b4 2
    have c3 := cell_of_heap HR1.out.b4 3
    have c4 := cell_of_heap HR1.out.b4 4
    have c5 := cell_of_heap HR1.out.b4 5
    simp at c0 c1 c2 c3 c4 c5
    have z2 := frozen_of_heap HR1.out.b4 2
    have z3 := frozen_of_heap HR1.out.b4 3
    have z4 := frozen_of_heap HR1.out.b4 4
    have e0 := cell_of_heap HR1.out.b6 0
    have y0 := frozen_of_heap HR1.out.b6 0
    have e1 := cell_of_heap HR1.out.b6 1
    have y1 := frozen_of_heap HR1.out.b6 1
    have e2 := cell_of_heap HR1.out.b6 2
    have y2 := frozen_of_heap HR1.out.b6 2
    have e3 := cell_of_heap HR1.out.b6 3
    have y3 := frozen_of_heap HR1.out.b6 3
    have e4 := cell_of_heap HR1.out.b6 4
    have y4 := frozen_of_heap HR1.out.b6 4
    have e5 := cell_of_heap HR1.out.b6 5
    have y5 := frozen_of_heap HR1.out.b6 5
    simp at e0 e1 e2 e3 e4 e5
    have HR2 := hid (HR1.out.set2 Hw.out Hp.out a)
    obtain ⟨Y2, hY2⟩ : ∃ Y2, Y.setCell ⟨W.heap.size, 2, none⟩ (.string a) = Y2 := ⟨_, rfl⟩
    rw [hY2] at HR2
    go_upto_region 19 with fail
    clear c0 c1 c2 c3 c4 c5 z2 z3 z4 e0 e1 e2 e3 e4 e5 y0 y1 y2 y3 y4 y5
    clear hY2 HR1
    have c0 := cell_of_heap HR2.out.b4 0
    have c1 := cell_of_heap HR2.out.b4 1
    have c2 := cell_of_heap HR2.out.b4 2
    have c3 := cell_of_heap HR2.out.b4 3
    have c4 := cell_of_heap HR2.out.b4 4
    have c5 := cell_of_heap HR2.out.b4 5
    simp at c0 c1 c2 c3 c4 c5
    have z2 := frozen_of_heap HR2.out.b4 2
    have z3 := frozen_of_heap HR2.out.b4 3
    have z4 := frozen_of_heap HR2.out.b4 4
    have e0 := cell_of_heap HR2.out.b6 0
    have y0 := frozen_of_heap HR2.out.b6 0
    have e1 := cell_of_heap HR2.out.b6 1
    have y1 := frozen_of_heap HR2.out.b6 1
    have e2 := cell_of_heap HR2.out.b6 2
    have y2 := frozen_of_heap HR2.out.b6 2
    have e3 := cell_of_heap HR2.out.b6 3
    have y3 := frozen_of_heap HR2.out.b6 3
    have e4 := cell_of_heap HR2.out.b6 4
    have y4 := frozen_of_heap HR2.out.b6 4
    have e5 := cell_of_heap HR2.out.b6 5
    have y5 := frozen_of_heap HR2.out.b6 5
    simp at e0 e1 e2 e3 e4 e5
    go_wp2_with fail
    refine (fresh_calls Y2 HR2.out.st (HLs.out _ _ _ HR2.out.st) h0 (by have := HM.out.made; dsimp only at *; omega)).mono ?_
    rintro e Y3 ⟨rfl, hN, hF, -⟩
    have HR3 : Hid (Rnd W0 Nb W vp vf ⟨sp, sf, mm + 1⟩ vf ⟨26, num, a, b, c, kids⟩ Y3) := HR2.out.more Hw.out Hp.out hN hF (Or.inl rfl)
    clear c0 c1 c2 c3 c4 c5 z2 z3 z4 e0 e1 e2 e3 e4 e5 y0 y1 y2 y3 y4 y5
    clear hN hF
    have c0 := cell_of_heap HR3.out.b4 0
    have c1 := cell_of_heap HR3.out.b4 1
    have c2 := cell_of_heap HR3.out.b4 2
    have c3 := cell_of_heap HR3.out.b4 3
    have c4 := cell_of_heap HR3.out.b4 4
    have c5 := cell_of_heap HR3.out.b4 5
    simp at c0 c1 c2 c3 c4 c5
    have z2 := frozen_of_heap HR3.out.b4 2
    have z3 := frozen_of_heap HR3.out.b4 3
    have z4 := frozen_of_heap HR3.out.b4 4
    have e0 := cell_of_heap HR3.out.b6 0
    have y0 := frozen_of_heap HR3.out.b6 0
    have e1 := cell_of_heap HR3.out.b6 1
    have y1 := frozen_of_heap HR3.out.b6 1
    have e2 := cell_of_heap HR3.out.b6 2
    have y2 := frozen_of_heap HR3.out.b6 2
    have e3 := cell_of_heap HR3.out.b6 3
    have y3 := frozen_of_heap HR3.out.b6 3
    have e4 := cell_of_heap HR3.out.b6 4
    have y4 := frozen_of_heap HR3.out.b6 4
    have e5 := cell_of_heap HR3.out.b6 5
    have y5 := frozen_of_heap HR3.out.b6 5
    simp at e0 e1 e2 e3 e4 e5
    have HR4 := hid (HR3.out.set3 Hw.out Hp.out (freshZ mm))
    obtain ⟨Y4, hY4⟩ : ∃ Y4, Y3.setCell ⟨W.heap.size, 3, none⟩ (.string (freshZ mm)) = Y4 := ⟨_, rfl⟩
    rw [hY4] at HR4
    generalize freshZ mm = F1 at *
    go_upto_region 20 with fail
    clear c0 c1 c2 c3 c4 c5 z2 z3 z4 e0 e1 e2 e3 e4 e5 y0 y1 y2 y3 y4 y5
    clear hY4 HR3 HR2
    have c0 := cell_of_heap HR4.out.b4 0
    have c1 := cell_of_heap HR4.out.b4 1
    have c2 := cell_of_heap HR4.out.b4 2
    have c3 := cell_of_heap HR4.out.b4 3
    have c4 := cell_of_heap HR4.out.b4 4
    have c5 := cell_of_heap HR4.out.b4 5
    simp at c0 c1 c2 c3 c4 c5
    have z2 := frozen_of_heap HR4.out.b4 2
    have z3 := frozen_of_heap HR4.out.b4 3
    have z4 := frozen_of_heap HR4.out.b4 4
    have e0 := cell_of_heap HR4.out.b6 0
    have y0 := frozen_of_heap HR4.out.b6 0
    have e1 := cell_of_heap HR4.out.b6 1
    have y1 := frozen_of_heap HR4.out.b6 1
    have e2 := cell_of_heap HR4.out.b6 2
    have y2 := frozen_of_heap HR4.out.b6 2
    have e3 := cell_of_heap HR4.out.b6 3
    have y3 := frozen_of_heap HR4.out.b6 3
    have e4 := cell_of_heap HR4.out.b6 4
    have y4 := frozen_of_heap HR4.out.b6 4
    have e5 := cell_of_heap HR4.out.b6 5
    have y5 := frozen_of_heap HR4.out.b6 5
    simp at e0 e1 e2 e3 e4 e5
    go_wp2_with fail
    refine (fresh_calls Y4 HR4.out.st (HLs.out _ _ _ HR4.out.st) h0 (by have := HM.out.made; dsimp only at *; omega)).mono ?_
    rintro e Y5 ⟨rfl, hN, hF, -⟩
    have HR5 : Hid (Rnd W0 Nb W vp vf ⟨sp, sf, mm + 1 + 1⟩ vf ⟨26, num, a, F1, c, kids⟩ Y5) := HR4.out.more Hw.out Hp.out hN hF (Or.inl rfl)
    clear c0 c1 c2 c3 c4 c5 z2 z3 z4 e0 e1 e2 e3 e4 e5 y0 y1 y2 y3 y4 y5
    clear hN hF
    have c0 := cell_of_heap HR5.out.b4 0
    have c1 := cell_of_heap HR5.out.b4 1
    have c2 := cell_of_heap HR5.out.b4 2
    have c3 := cell_of_heap HR5.out.b4 3
    have c4 := cell_of_heap HR5.out.b4 4
    have c5 := cell_of_heap HR5.out.b4 5
    simp at c0 c1 c2 c3 c4 c5
    have z2 := frozen_of_heap HR5.out.b4 2
    have z3 := frozen_of_heap HR5.out.b4 3
    have z4 := frozen_of_heap HR5.out.b4 4
    have e0 := cell_of_heap HR5.out.b6 0
    have y0 := frozen_of_heap HR5.out.b6 0
    have e1 := cell_of_heap HR5.out.b6 1
    have y1 := frozen_of_heap HR5.out.b6 1
    have e2 := cell_of_heap HR5.out.b6 2
    have y2 := frozen_of_heap HR5.out.b6 2
    have e3 := cell_of_heap HR5.out.b6 3
    have y3 := frozen_of_heap HR5.out.b6 3
    have e4 := cell_of_heap HR5.out.b6 4
    have y4 := frozen_of_heap HR5.out.b6 4
    have e5 := cell_of_heap HR5.out.b6 5
    have y5 := frozen_of_heap HR5.out.b6 5
    simp at e0 e1 e2 e3 e4 e5
    have HR6 := hid (HR5.out.set4 Hw.out Hp.out (freshZ (mm + 1)))
    generalize freshZ (mm + 1) = F2 at *
    go_wp2_with fail
    refine bodyPost_ret (v := ndV ⟨26, num, a, F1, F2, kids⟩) (node_result (tmps := _) rfl (box6_all HR6.out.b6 _ _ _ _ _ _)) rfl ?_
    obtain ⟨g1, g3⟩ := HR6.out.done Hw.out Hp.out (.int .i64 26) (.int .i64 num) (.string a) (.string F1) (.string F2) (.int .i64 kids)
    refine ⟨?_, ⟨_, ?_, HR6.out.mv⟩, g3⟩
    · rw [HRen.out]
      rfl
    · rw [HSt.out]
      exact g1
  by_cases k5 : kd = 5
  · subst k5
    have HMk : Hid (makesZ 5 = 0) := rfl
    cases hfd : findS sc a with
    | some y =>
      have HRen : Hid (renZ ⟨5, num, a, b, c, kids⟩ sc mm = ⟨5, num, y, b, c, kids⟩) := by
        show _ = _
        unfold renZ
        rw [if_pos rfl, hfd]
        rfl
      have HSt : Hid ((⟨sp, sf ++ lostZ ⟨5, num, a, b, c, kids⟩ sc, mm + makesZ (⟨5, num, a, b, c, kids⟩ : Nd).kind⟩ : Wst) = ⟨sp, sf, mm⟩) := by
        have e : lostZ ⟨5, num, a, b, c, kids⟩ sc = [] := by unfold lostZ; rw [if_neg (by rintro ⟨-, h⟩; rw [hfd] at h; cases h)]
        show _ = _
        rw [e, List.append_nil]
        rfl
      have HFi := hid (find_calls p sc a X HSc.out)
      rw [hfd] at HFi
      dsimp only [Option.getD_some, Option.isSome_some] at HFi
      have c0 := cell_of_heap HR0.out.b4 0
      have c1 := cell_of_heap HR0.out.b4 1
      have c2 := cell_of_heap HR0.out.b4 2
      have c3 := cell_of_heap HR0.out.b4 3
      have c4 := cell_of_heap HR0.out.b4 4
      have c5 := cell_of_heap HR0.out.b4 5
      simp at c0 c1 c2 c3 c4 c5
      have z2 := frozen_of_heap HR0.out.b4 2
      have z3 := frozen_of_heap HR0.out.b4 3
      have z4 := frozen_of_heap HR0.out.b4 4
      have e0 := cell_of_heap HR0.out.b6 0
      have y0 := frozen_of_heap HR0.out.b6 0
      have e1 := cell_of_heap HR0.out.b6 1
      have y1 := frozen_of_heap HR0.out.b6 1
      have e2 := cell_of_heap HR0.out.b6 2
      have y2 := frozen_of_heap HR0.out.b6 2
      have e3 := cell_of_heap HR0.out.b6 3
      have y3 := frozen_of_heap HR0.out.b6 3
      have e4 := cell_of_heap HR0.out.b6 4
      have y4 := frozen_of_heap HR0.out.b6 4
      have e5 := cell_of_heap HR0.out.b6 5
      have y5 := frozen_of_heap HR0.out.b6 5
      simp at e0 e1 e2 e3 e4 e5
      go_wp2_with fail
      refine HFi.out.mono ?_
      rintro e _ ⟨rfl, rfl⟩
      have HR2 := hid (HR0.out.set2 Hw.out Hp.out y)
      go_wp2_with fail
      refine bodyPost_ret (v := ndV ⟨5, num, y, b, c, kids⟩) (node_result (tmps := _) rfl (box6_all HR2.out.b6 _ _ _ _ _ _)) rfl ?_
      obtain ⟨g1, g3⟩ := HR2.out.done Hw.out Hp.out (.int .i64 5) (.int .i64 num) (.string y) (.string b) (.string c) (.int .i64 kids)
      refine ⟨?_, ⟨_, ?_, HR2.out.mv⟩, g3⟩
      · rw [HRen.out]
        rfl
      · rw [HSt.out]
        exact g1
    | none =>
      have HRen : Hid (renZ ⟨5, num, a, b, c, kids⟩ sc mm = ⟨5, num, ⟨#[]⟩, b, c, kids⟩) := by
        show _ = _
        unfold renZ
        rw [if_pos rfl, hfd]
        rfl
      have HSt : Hid ((⟨sp, sf ++ lostZ ⟨5, num, a, b, c, kids⟩ sc, mm + makesZ (⟨5, num, a, b, c, kids⟩ : Nd).kind⟩ : Wst) = ⟨sp, sf ++ [a], mm⟩) := by
        have e : lostZ ⟨5, num, a, b, c, kids⟩ sc = [a] := by unfold lostZ; rw [if_pos ⟨rfl, hfd⟩]
        show _ = _
        rw [e]
        rfl
      have HFi := hid (find_calls p sc a X HSc.out)
      rw [hfd] at HFi
      dsimp only [Option.getD_none, Option.isSome_none] at HFi
      have c0 := cell_of_heap HR0.out.b4 0
      have c1 := cell_of_heap HR0.out.b4 1
      have c2 := cell_of_heap HR0.out.b4 2
      have c3 := cell_of_heap HR0.out.b4 3
      have c4 := cell_of_heap HR0.out.b4 4
      have c5 := cell_of_heap HR0.out.b4 5
      simp at c0 c1 c2 c3 c4 c5
      have z2 := frozen_of_heap HR0.out.b4 2
      have z3 := frozen_of_heap HR0.out.b4 3
      have z4 := frozen_of_heap HR0.out.b4 4
      have e0 := cell_of_heap HR0.out.b6 0
      have y0 := frozen_of_heap HR0.out.b6 0
      have e1 := cell_of_heap HR0.out.b6 1
      have y1 := frozen_of_heap HR0.out.b6 1
      have e2 := cell_of_heap HR0.out.b6 2
      have y2 := frozen_of_heap HR0.out.b6 2
      have e3 := cell_of_heap HR0.out.b6 3
      have y3 := frozen_of_heap HR0.out.b6 3
      have e4 := cell_of_heap HR0.out.b6 4
      have y4 := frozen_of_heap HR0.out.b6 4
      have e5 := cell_of_heap HR0.out.b6 5
      have y5 := frozen_of_heap HR0.out.b6 5
      simp at e0 e1 e2 e3 e4 e5
      go_wp2_with fail
      refine HFi.out.mono ?_
      rintro e _ ⟨rfl, rfl⟩
      obtain ⟨ad, cf, hvf⟩ := own_slice HR0.out.st.frow
      dsimp only at hvf
      subst hvf
      have hblk := HR0.out.st.blk
      have d1 := cell_of_heap hblk 1
      simp at d1
      have hNl : Nb < X.heap.size := heap_lt hblk
      have hBl : W.heap.size < X.heap.size := heap_lt HR0.out.b4
      have q1 : ∀ y : Later X.heap.size X, y.w.cell? ⟨Nb, 1, none⟩ = _ := fun y => y.cell hNl d1
      have q2 : ∀ y : Later X.heap.size X, y.w.cell? ⟨W.heap.size, 2, none⟩ = _ := fun y => y.cell hBl c2
      clear HFi hblk d1
      clear c0 c1 c3 c4 c5 z2 z3 z4 e0 e1 e2 e3 e4 e5 y0 y1 y2 y3 y4 y5
      go_wp2_with fail
      refine till_begin (c := 9) (S := fun w' => ∃ x : Later X.heap.size X, w' = x.w) (by kernel_rfl) ?_
      refine till_walk (by kernel_rfl) 8 0 _ _ (by kernel_rfl) (by kernel_rfl) ⟨⟨X.drew, (Below.refl _ _).drew⟩, rfl⟩ ?_
      simp only [List.drop_zero, List.take_succ_cons, List.take_zero]
      repeat (go_big_quiet_step (first
        | (rename_i y; go_at_call 51; refine (clone_calls a _ HNa.out).mono ?_; rintro e w5 ⟨rfl, hb5⟩; exact ⟨rfl, ⟨w5, y.h.trans (hb5.mono y.h.size)⟩, rfl⟩)))
      refine wpQuiet_nil ?_
      rintro w7 ⟨x1, rfl⟩
      have HR1 := hid (HR0.out.more Hw.out Hp.out (HR0.out.st.below x1.h) (Nfr.of_below x1.h) (Or.inl rfl))
      have hL1 := x1.h
      clear q1 q2 c2 hNl hBl
      generalize x1.w = X1 at *
      refine till_make (k := 8) (v := .slice (some ⟨X1.heap.size, 0, none⟩) 1 1) (w1 := X1.alloc (.cells #[.string a] 9)) (by decide) rfl (by kernel_rfl) rfl (by simp [go_sem]) ⟨⟨_, hL1.alloc (by have := hL1.size; omega) _⟩, rfl⟩ (by simp [go_sem]; exact rfl) ?_
      have hE := (MapKept.heap_alloc X1 (.cells #[.string a] 9)).1
      have hK := (Below.refl X1.heap.size X1).alloc (Nat.le_refl _) (.cells #[.string a] 9)
      have HR2 := hid (HR1.out.more Hw.out Hp.out (HR1.out.st.below hK) (Nfr.of_below hK) (Or.inl rfl))
      generalize X1.alloc (.cells #[.string a] 9) = X2 at *
      obtain ⟨i0, hi, hz0, hz1, hz2⟩ := info_parts info_str
      obtain ⟨vf2, X3, hrun, hown, hgrow, -, hat⟩ := run_append_own_at (P := Tryz.prog) X2 W0.heap.size 25 25 9 i0 _ 1 16 Tryz.underlying25 hi hz0 hz1 hz2 rfl (by decide) (.slice ad sf.length cf) sf.length (strRow sf) HR2.out.st.frow ⟨X1.heap.size, 0, none⟩ 1 1 [.string a] rfl (fun j u hu => by
        match j, hu with
        | 0, hu =>
          simp at hu
          subst hu
          exact cell_of_heap hE 0) (fun u hu => by
        simp at hu
        subst hu
        rfl) (by have := HM.out.free; dsimp only at this; unfold maxLen; omega) (by have := HM.out.free; dsimp only at this; omega) HR2.out.st.size
      refine till_cut (v := vf2) (w1 := X3) rfl (by kernel_rfl) rfl (append_run (s := .tmp 26) (x := .tmp 30) (t := 25) rfl rfl rfl hrun) (by simp [go_sem]; exact rfl) ?_
      refine any_stage (fun _ => True) ?_
      have hnbk : X3.heap[Nb]? = X2.heap[Nb]? := hgrow.block Nb (heap_lt HR2.out.st.blk) (fun e => (HR2.out.st.apart HR2.out.st.blk).2 (by decide) e.symm)
      have hb3 := hnbk.trans HR2.out.st.blk
      have d1 := cell_of_heap hb3 1
      have w1 := frozen_of_heap hb3 1
      simp at d1
      obtain ⟨ad2, cf2, hv2⟩ := own_slice hown
      subst hv2
      refine stage_make (k := 10) (v := .pointer (some ⟨Nb, 0, none⟩)) (w1 := X3) rfl (by kernel_rfl) rfl (by simp [go_sem]) trivial (by simp [go_sem]; exact rfl) ?_
      refine stage_make (k := 11) (v := .pointer (some ⟨Nb, 1, none⟩)) (w1 := X3) rfl (by kernel_rfl) rfl (by simp [go_sem]) trivial (by simp [go_sem]; exact rfl) ?_
      refine stage_skip (k := 12) rfl (w1 := X3.setCell ⟨Nb, 1, none⟩ (.slice ad2 (sf.length + 1) cf2)) rfl (by kernel_rfl) rfl (by simp [go_sem, d1, w1]) trivial ?_
      refine stage_end (by kernel_rfl) ?_
      have hnx := nms_free HR2.out.st hown hgrow hat
      have HR3 : Hid (Rnd W0 Nb W vp (.slice ad sf.length cf) ⟨sp, sf ++ [a], mm⟩ (.slice ad2 (sf.length + 1) cf2) ⟨5, num, a, b, c, kids⟩ (X3.setCell ⟨Nb, 1, none⟩ (.slice ad2 (sf.length + 1) cf2))) := HR2.out.more Hw.out Hp.out hnx.1 hnx.2.1 hnx.2.2
      clear hnx hrun hown hgrow hat hE hK hi hz0 hz1 hz2 hnbk hb3 d1 w1 HR1 HR2 hL1
      generalize X3.setCell ⟨Nb, 1, none⟩ (.slice ad2 (sf.length + 1) cf2) = X4 at *
      have c0 := cell_of_heap HR3.out.b4 0
      have c1 := cell_of_heap HR3.out.b4 1
      have c2 := cell_of_heap HR3.out.b4 2
      have c3 := cell_of_heap HR3.out.b4 3
      have c4 := cell_of_heap HR3.out.b4 4
      have c5 := cell_of_heap HR3.out.b4 5
      simp at c0 c1 c2 c3 c4 c5
      have z2 := frozen_of_heap HR3.out.b4 2
      have z3 := frozen_of_heap HR3.out.b4 3
      have z4 := frozen_of_heap HR3.out.b4 4
      have e0 := cell_of_heap HR3.out.b6 0
      have y0 := frozen_of_heap HR3.out.b6 0
      have e1 := cell_of_heap HR3.out.b6 1
      have y1 := frozen_of_heap HR3.out.b6 1
      have e2 := cell_of_heap HR3.out.b6 2
      have y2 := frozen_of_heap HR3.out.b6 2
      have e3 := cell_of_heap HR3.out.b6 3
      have y3 := frozen_of_heap HR3.out.b6 3
      have e4 := cell_of_heap HR3.out.b6 4
      have y4 := frozen_of_heap HR3.out.b6 4
      have e5 := cell_of_heap HR3.out.b6 5
      have y5 := frozen_of_heap HR3.out.b6 5
      simp at e0 e1 e2 e3 e4 e5
      have HR4 := hid (HR3.out.set2 Hw.out Hp.out ⟨#[]⟩)
      go_wp2_with fail
      refine bodyPost_ret (v := ndV ⟨5, num, ⟨#[]⟩, b, c, kids⟩) (node_result (tmps := _) rfl (box6_all HR4.out.b6 _ _ _ _ _ _)) rfl ?_
      obtain ⟨g1, g3⟩ := HR4.out.done Hw.out Hp.out (.int .i64 5) (.int .i64 num) (.string ⟨#[]⟩) (.string b) (.string c) (.int .i64 kids)
      refine ⟨?_, ⟨_, ?_, HR4.out.mv⟩, g3⟩
      · rw [HRen.out]
        rfl
      · rw [HSt.out]
        exact g1
  have b6 : (kd == 6) = false := beq_eq_false_iff_ne.2 k6
  have b8 : (kd == 8) = false := beq_eq_false_iff_ne.2 k8
  have b25 : (kd == 25) = false := beq_eq_false_iff_ne.2 k25
  have b9 : (kd == 9) = false := beq_eq_false_iff_ne.2 k9
  have b20 : (kd == 20) = false := beq_eq_false_iff_ne.2 k20
  have b22 : (kd == 22) = false := beq_eq_false_iff_ne.2 k22
  have b26 : (kd == 26) = false := beq_eq_false_iff_ne.2 k26
  have b5 : (kd == 5) = false := beq_eq_false_iff_ne.2 k5
  have HRen : Hid (renZ ⟨kd, num, a, b, c, kids⟩ sc mm = ⟨kd, num, a, b, c, kids⟩) := by
    show _ = _
    unfold renZ
    rw [if_neg k5, if_neg (by rintro (h | h | h); exact k6 h; exact k8 h; exact k25 h), if_neg (by rintro (h | h); exact k9 h; exact k20 h), if_neg k26]
  have HSt : Hid ((⟨sp, sf ++ lostZ ⟨kd, num, a, b, c, kids⟩ sc, mm + makesZ (⟨kd, num, a, b, c, kids⟩ : Nd).kind⟩ : Wst) = ⟨sp, sf, mm⟩) := by
    have e : lostZ ⟨kd, num, a, b, c, kids⟩ sc = [] := by unfold lostZ; rw [if_neg (by rintro ⟨h, -⟩; exact k5 h)]
    have e2 : makesZ kd = 0 := by unfold makesZ; rw [if_neg (by rintro (h | h | h); exact k6 h; exact k8 h; exact k25 h), if_neg (by rintro (h | h | h); exact k9 h; exact k20 h; exact k26 h)]
    show _ = _
    dsimp only
    rw [e, List.append_nil, e2]
    rfl
  have c0 := cell_of_heap HR0.out.b4 0
  have c1 := cell_of_heap HR0.out.b4 1
  have c2 := cell_of_heap HR0.out.b4 2
  have c3 := cell_of_heap HR0.out.b4 3
  have c4 := cell_of_heap HR0.out.b4 4
  have c5 := cell_of_heap HR0.out.b4 5
  simp at c0 c1 c2 c3 c4 c5
  have z2 := frozen_of_heap HR0.out.b4 2
  have z3 := frozen_of_heap HR0.out.b4 3
  have z4 := frozen_of_heap HR0.out.b4 4
  have e0 := cell_of_heap HR0.out.b6 0
  have y0 := frozen_of_heap HR0.out.b6 0
  have e1 := cell_of_heap HR0.out.b6 1
  have y1 := frozen_of_heap HR0.out.b6 1
  have e2 := cell_of_heap HR0.out.b6 2
  have y2 := frozen_of_heap HR0.out.b6 2
  have e3 := cell_of_heap HR0.out.b6 3
  have y3 := frozen_of_heap HR0.out.b6 3
  have e4 := cell_of_heap HR0.out.b6 4
  have y4 := frozen_of_heap HR0.out.b6 4
  have e5 := cell_of_heap HR0.out.b6 5
  have y5 := frozen_of_heap HR0.out.b6 5
  simp at e0 e1 e2 e3 e4 e5
  go_wp2_with fail
  refine bodyPost_ret (v := ndV ⟨kd, num, a, b, c, kids⟩) (node_result (tmps := _) rfl (box6_all HR0.out.b6 _ _ _ _ _ _)) rfl ?_
  obtain ⟨g1, g3⟩ := HR0.out.done Hw.out Hp.out (.int .i64 kd) (.int .i64 num) (.string a) (.string b) (.string c) (.int .i64 kids)
  refine ⟨?_, ⟨_, ?_, HR0.out.mv⟩, g3⟩
  · rw [HRen.out]
    rfl
  · rw [HSt.out]
    exact g1
end Go.Proofs.YtfmeldjkofoelaaGreatDoor

/- The namer's walk over a form. -/
namespace Go.Proofs.YtfmeldjkofoelaaGreatDoor
open Go.RowKit Go.Deep

theorem info_nd : (Tryz.prog.info? 29).map (fun i => (i.zero, i.size, i.bytes)) = some (some (.agg #[.int .i64 0, .int .i64 0, .string ⟨#[]⟩, .string ⟨#[]⟩, .string ⟨#[]⟩, .int .i64 0]), 6, 72) := by kernel_rfl

/-- A node that its form keeps whole. -/
def Whole (n : Nd) : Prop := bareZ n = { n with kids := 0 } ∧ n.a.size ≤ 281474976710656

theorem node6_set {w : World} {b : Nat} {t : TypeId} {x0 x1 x2 x3 x4 x5 : Value} (h : w.heap[b]? = some (.cells #[x0, x1, x2, x3, x4, x5] t)) (v : Value) : (w.setCell ⟨b, 5, none⟩ v).heap[b]? = some (.cells #[x0, x1, x2, x3, x4, v] t) := by
  simp [World.setCell, Array.getElem?_modify, h]

theorem nodeOf_result {tmps : Array Value} {g : Nat} {X : World} {v0 v1 v2 v3 v4 v5 : Value} (hg : tmps.getD 2 undef = .pointer (some ⟨g, 0, none⟩)) (h : X.heap[g]? = some (.cells #[v0, v1, v2, v3, v4, v5] 29)) : (results Tryz.f28 tmps).run Tryz.prog X = .ok (.agg #[v0, v1, v2, v3, v4, v5]) X := by
  rw [Array.getD_eq_getD_getElem?] at hg
  have c0 := cell_of_heap h 0
  have c1 := cell_of_heap h 1
  have c2 := cell_of_heap h 2
  have c3 := cell_of_heap h 3
  have c4 := cell_of_heap h 4
  have c5 := cell_of_heap h 5
  simp at c0 c1 c2 c3 c4 c5
  simp [results, Tryz.results28, go_sem, hg, c0, c1, c2, c3, c4, c5]

theorem sliceOf_len {B : Nat} {w : World} {sv : Value} {us : List Value} (h : SliceOf B w sv us) : ∃ ad c, sv = .slice ad us.length c := by
  rcases h with ⟨rfl, a, c, rfl⟩ | ⟨g, o, cap, rfl, -⟩
  · exact ⟨a, c, rfl⟩
  · exact ⟨_, _, rfl⟩

set_option maxHeartbeats 2000000 in
set_option maxRecDepth 100000 in
theorem nodeOfF_calls {B : Nat} {n : Nd} {us : List Value} {v : Value} (w : World) (hS : Shape B w n us v) (hi : ∀ u ∈ us, ∃ T p, u = .iface T p) (hw : Whole n) (hk : n.kids = us.length) :
    Calls Tryz.prog 28 #[v] w fun e w' => e = .returned (ndV n) ∧ Below w.heap.size w w' := by
  have hA := (MapKept.heap_alloc w (.cells #[.int .i64 0, .int .i64 0, .string ⟨#[]⟩, .string ⟨#[]⟩, .string ⟨#[]⟩, .int .i64 0] 29)).1
  have hbA := (Below.refl w.heap.size w).alloc (Nat.le_refl _) (.cells #[.int .i64 0, .int .i64 0, .string ⟨#[]⟩, .string ⟨#[]⟩, .string ⟨#[]⟩, .int .i64 0] 29)
  have hNo := nodeOf (hS.below hbA) hi
  rw [hw.1] at hNo
  obtain ⟨kd, num, a, b, c, kids⟩ := n
  dsimp only at hNo hk
  obtain ⟨T, pv, g, rv, e0, hmth, hcf, hNd⟩ := hNo
  subst e0
  have HS := hid (hS.below hbA)
  have HI := hid hi
  have HBA := hid hbA
  have HA := hid hA
  have HN := hid hNd
  subst hk
  unfold ndV
  dsimp only
  clear hS hi hw hNd hbA hA
  go_enter Tryz.func28, Tryz.ntmps28
  go_wp2_with fail
  refine HN.out.mono ?_
  rintro e w2 ⟨rfl, hb2⟩
  unfold ndV
  dsimp only
  generalize w.alloc (.cells #[.int .i64 0, .int .i64 0, .string ⟨#[]⟩, .string ⟨#[]⟩, .string ⟨#[]⟩, .int .i64 0] 29) = wA at *
  have hB3 := (MapKept.heap_alloc w2 (.cells #[.int .i64 kd, .int .i64 num, .string a, .string b, .string c, .int .i64 0] 29)).1
  have hb3 := (Below.refl w2.heap.size w2).alloc (Nat.le_refl _) (.cells #[.int .i64 kd, .int .i64 num, .string a, .string b, .string c, .int .i64 0] 29)
  have hA3 := (hb3.block _ (heap_lt ((hb2.block _ (heap_lt HA.out)).trans HA.out))).trans ((hb2.block _ (heap_lt HA.out)).trans HA.out)
  have hbA3 := hb2.trans (hb3.mono hb2.size)
  have hK := kidsOf (HS.out.below hbA3) HI.out
  obtain ⟨T', pv', g', rv', e1, hmth', hcf', hKd⟩ := hK
  cases e1
  have HK := hid hKd
  have HBw3 := hid (HBA.out.trans (hbA3.mono HBA.out.size))
  have hwlt : w.heap.size < w2.heap.size := by have := heap_lt HA.out; have := hb2.size; omega
  clear hKd HN hmth hcf hb2 hbA3 HS HA
  go_upto_region 2 with fail
  generalize w2.alloc (.cells #[.int .i64 kd, .int .i64 num, .string a, .string b, .string c, .int .i64 0] 29) = w3 at *
  generalize hB3g : w2.heap.size = b3 at *
  clear hB3g hb3
  go_wp2_with fail
  refine HK.out.mono ?_
  rintro e w4 ⟨sv, rfl, hsl, hb4⟩
  obtain ⟨ad, cc, rfl⟩ := sliceOf_len hsl
  have hA4 := (hb4.block _ (heap_lt hA3)).trans hA3
  have hB4 := (hb4.block _ (heap_lt hB3)).trans hB3
  have HBw4 := hid (HBw3.out.trans (hb4.mono HBw3.out.size))
  have c0 := cell_of_heap hB4 0
  have c1 := cell_of_heap hB4 1
  have c2 := cell_of_heap hB4 2
  have c3 := cell_of_heap hB4 3
  have c4 := cell_of_heap hB4 4
  have c5 := cell_of_heap hB4 5
  have z5 := frozen_of_heap hB4 5
  have e0 := cell_of_heap hA4 0
  have e1 := cell_of_heap hA4 1
  have e2 := cell_of_heap hA4 2
  have e3 := cell_of_heap hA4 3
  have e4 := cell_of_heap hA4 4
  have e5 := cell_of_heap hA4 5
  have y0 := frozen_of_heap hA4 0
  have y1 := frozen_of_heap hA4 1
  have y2 := frozen_of_heap hA4 2
  have y3 := frozen_of_heap hA4 3
  have y4 := frozen_of_heap hA4 4
  have y5 := frozen_of_heap hA4 5
  simp at c0 c1 c2 c3 c4 c5 e0 e1 e2 e3 e4 e5
  have HA4 := hid hA4
  have HB4 := hid hB4
  have hne : w.heap.size ≠ b3 := by omega
  clear HK hmth' hcf' hsl hb4 hA3 hB3 hA4 hB4 HBw3
  go_wp2_with fail
  refine bodyPost_ret (nodeOf_result (tmps := _) rfl (box6_all ((Below.heap_setCell w4 ⟨b3, 5, none⟩ _ _ hne).trans HA4.out) _ _ _ _ _ _)) rfl ?_
  exact ⟨rfl, (((((((HBw4.out.setCell (p := ⟨b3, 5, none⟩) (by dsimp only; omega) _).setCell (p := ⟨w.heap.size, 0, none⟩) (Nat.le_refl _) _).setCell (p := ⟨w.heap.size, 1, none⟩) (Nat.le_refl _) _).setCell (p := ⟨w.heap.size, 2, none⟩) (Nat.le_refl _) _).setCell (p := ⟨w.heap.size, 3, none⟩) (Nat.le_refl _) _).setCell (p := ⟨w.heap.size, 4, none⟩) (Nat.le_refl _) _).setCell (p := ⟨w.heap.size, 5, none⟩) (Nat.le_refl _) _)⟩
end Go.Proofs.YtfmeldjkofoelaaGreatDoor

/- The namer's walk over a form is the plain one. -/
namespace Go.Proofs.YtfmeldjkofoelaaGreatDoor
open Go.RowKit Go.Deep

/-- There is room for so many nodes more. -/
structure Room (c : Nat) (s : Wst) : Prop where
  plain : s.plain.length + 2 * c ≤ 90000
  free : s.free.length + 2 * c ≤ 90000
  made : s.made + 2 * c ≤ 90000

theorem Room.small {c : Nat} {s : Wst} (h : Room c s) : Wsm s := ⟨by have := h.plain; omega, by have := h.free; omega, by have := h.made; omega⟩

theorem makesZ_le (k : Int) : makesZ k ≤ 2 := by
  unfold makesZ
  repeat' split
  all_goals omega

theorem lostZ_len (n : Nd) (sc : Sco) : (lostZ n sc).length ≤ 1 := by
  unfold lostZ
  split <;> simp

/-- Forms that lay there lie there still. -/
theorem shape_now {W0 : World} {Nb BF : Nat} {s : Wst} {vp vf : Value} {W : World} {n : Nd} {us : List Value} {v : Value} (hS : Shape BF W0 n us v) (hN : Nb < BF) (st : Nms W0 Nb s vp vf W) : Shape BF W n us v :=
  hS.kept (Nat.le_refl _) st.size (fun a h1 h2 => World.cell?_of_block (st.kept a.block h2 (by omega)))

theorem forms_now {W0 : World} {Nb BF : Nat} {s : Wst} {vp vf : Value} {W : World} {k : Fo} {us : List Value} (hF : Forms BF W0 k us) (hN : Nb < BF) (st : Nms W0 Nb s vp vf W) : Forms BF W k us :=
  hF.kept (Nat.le_refl _) st.size (fun a h1 h2 => World.cell?_of_block (st.kept a.block h2 (by omega)))

/-- Where a walk has come to. -/
structure Wlk (W0 : World) (Nb : Nat) (W : World) (vp vf : Value) (s' : Wst) (vp' vf' : Value) (X : World) : Prop where
  st : Nms W0 Nb s' vp' vf' X
  fr : Nfr Nb vp vf W X
  mp : Movd W vp vp'
  mf : Movd W vf vf'

theorem Wlk.step {W0 : World} {Nb : Nat} {W : World} {vp vf : Value} {s' s'' : Wst} {vp' vf' vp'' vf'' : Value} {X Y : World} (h : Wlk W0 Nb W vp vf s' vp' vf' X) (hy : Nms W0 Nb s'' vp'' vf'' Y) (fy : Nfr Nb vp' vf' X Y) (hp : Movd X vp' vp'') (hf : Movd X vf' vf'') : Wlk W0 Nb W vp vf s'' vp'' vf'' Y :=
  ⟨hy, h.fr.trans h.mp h.mf fy, h.mp.trans h.fr.size hp, h.mf.trans h.fr.size hf⟩

theorem Wlk.below {W0 : World} {Nb : Nat} {W : World} {vp vf : Value} {s' : Wst} {vp' vf' : Value} {X Y : World} (h : Wlk W0 Nb W vp vf s' vp' vf' X) (hb : Below X.heap.size X Y) : Wlk W0 Nb W vp vf s' vp' vf' Y := h.step (h.st.below hb) (Nfr.of_below hb) (Or.inl rfl) (Or.inl rfl)

/-- A block that no row lies in. -/
structure Free (Nb q : Nat) (vp vf : Value) (X : World) : Prop where
  lt : q < X.heap.size
  nb : q ≠ Nb
  np : vp.ownBlock ≠ some q
  nf : vf.ownBlock ≠ some q

theorem Free.step {Nb q : Nat} {vp vf vp' vf' : Value} {X Y : World} (h : Free Nb q vp vf X) (fy : Nfr Nb vp vf X Y) (hp : Movd X vp vp') (hf : Movd X vf vf') : Free Nb q vp' vf' Y ∧ Y.heap[q]? = X.heap[q]? :=
  ⟨⟨Nat.lt_of_lt_of_le h.lt fy.size, h.nb, hp.not h.lt h.np, hf.not h.lt h.nf⟩, fy.block q h.lt h.nb h.np h.nf⟩

theorem Free.below {Nb q : Nat} {vp vf : Value} {X Y : World} (h : Free Nb q vp vf X) (hb : Below X.heap.size X Y) : Free Nb q vp vf Y ∧ Y.heap[q]? = X.heap[q]? := h.step (Nfr.of_below hb) (Or.inl rfl) (Or.inl rfl)

/-- A new block. -/
theorem free_new {W0 : World} {Nb : Nat} {s : Wst} {vp vf : Value} {X Y : World} (st : Nms W0 Nb s vp vf X) {q : Nat} (h1 : X.heap.size ≤ q) (h2 : q < Y.heap.size) : Free Nb q vp vf Y :=
  ⟨h2, by have := st.nb; have := st.size; omega, fun e => by obtain ⟨-, c, hc⟩ := own_type st.prow e; have := heap_lt hc; omega, fun e => by obtain ⟨-, c, hc⟩ := own_type st.frow e; have := heap_lt hc; omega⟩

/-- Names in a slice. -/
def NamesAt (W : World) (ad : Option Addr) (ss : List ByteArray) : Prop := ss.length = 0 ∨ ∃ g o, ad = some ⟨g, o, none⟩ ∧ g < W.heap.size ∧ ∀ j, j < ss.length → W.cell? ⟨g, o + j, none⟩ = some (.string (ss.getD j ⟨#[]⟩))

theorem names_at {B : Nat} {W : World} {sv : Value} {ss : List ByteArray} (h : SliceOf B W sv (strRow ss)) : ∃ ad c, sv = .slice ad ss.length c ∧ NamesAt W ad ss := by
  have hl : (strRow ss).length = ss.length := by unfold strRow; simp
  rcases h with ⟨e, a, c, rfl⟩ | ⟨g, o, cap, rfl, -, hg, hc⟩
  · have h0 : ss.length = 0 := by rw [← hl, e]; rfl
    exact ⟨a, c, by rw [h0], Or.inl h0⟩
  · refine ⟨_, cap, by rw [hl], Or.inr ⟨g, o, rfl, hg, fun j hj => ?_⟩⟩
    rw [hc j (by rw [hl]; exact hj)]
    unfold strRow
    simp [List.getD, hj]

theorem NamesAt.below {W W' : World} {ad : Option Addr} {ss : List ByteArray} (h : NamesAt W ad ss) (hb : Below W.heap.size W W') : NamesAt W' ad ss := by
  rcases h with h | ⟨g, o, e, hg, hc⟩
  · exact Or.inl h
  · exact Or.inr ⟨g, o, e, Nat.lt_of_lt_of_le hg hb.size, fun j hj => (hb.cell (p := ⟨g, o + j, none⟩) hg).trans (hc j hj)⟩

theorem zip_take (xs ys : List ByteArray) (j : Nat) (h1 : j < xs.length) (h2 : xs.length = ys.length) (sc : Sco) : ((xs.zip ys).take (j + 1)).foldl (fun s p => p :: s) sc = (xs.getD j ⟨#[]⟩, ys.getD j ⟨#[]⟩) :: ((xs.zip ys).take j).foldl (fun s p => p :: s) sc := by
  have hz : j < (xs.zip ys).length := by rw [List.length_zip]; omega
  rw [List.take_add_one, List.getElem?_eq_getElem hz, Option.toList_some, List.foldl_append]
  simp [List.getD, h1, show j < ys.length by omega]

theorem walkW_room {n : Nd} {k : Fo} {sc : Sco} {s : Wst} {c : Nat} (h : Room (1 + k.flat.length + c) s) : Room c (walkW n k sc s) := by
  obtain ⟨h1, h2, h3⟩ := kidsW_plain n (renZ n sc s.made) k 0 sc (stepW n sc s)
  have e1 := h.plain
  have e2 := h.free
  have e3 := h.made
  have h4 := lostZ_len n sc
  have h5 := makesZ_le n.kind
  have s1 : (stepW n sc s).plain.length = s.plain.length + 1 := by simp [stepW]
  have s2 : (stepW n sc s).free.length ≤ s.free.length + 1 := by simp only [stepW, List.length_append]; omega
  have s3 : (stepW n sc s).made ≤ s.made + 2 := by simp only [stepW]; omega
  unfold walkW
  exact ⟨by omega, by omega, by omega⟩

theorem lt_step' {i L : Nat} (h : (i : Int) < (L : Int)) : L - (intOf (.int .i64 ((i + 1 : Nat) : Int))).toNat < L - (intOf (.int .i64 (i : Int))).toNat := by simp only [intOf, Int.toNat_natCast]; omega

set_option maxHeartbeats 8000000 in
set_option maxRecDepth 100000 in
theorem walk_calls {W0 : World} {Nb BF : Nat} (hL : Laid W0) (h0 : Nb ≠ 0) (hNF : Nb < BF) : ∀ (N : Nat) (n : Nd) (k : Fo) (us : List Value) (v : Value) (p : Option Addr) (sc : Sco) (s : Wst) (vp vf : Value) (W : World),
    Forms BF W0 k us → Shape BF W0 n us v → n.kids = k.count → k.wf → (∀ m ∈ n :: k.flat, Whole m) → k.flat.length < N → k.flat.length ≤ 300 → Nms W0 Nb s vp vf W → Room (k.flat.length + 1) s → ScoAt W p sc →
    Calls Tryz.prog 14 #[.pointer (some ⟨Nb, 0, none⟩), v, .pointer p] W fun e W' => (∃ x, e = .returned x) ∧ ∃ vp' vf', Nms W0 Nb (walkW n k sc s) vp' vf' W' ∧ Nfr Nb vp vf W W' ∧ Movd W vp vp' ∧ Movd W vf vf' := by
  intro N
  induction N with
  | zero => intro n k us v p sc s vp vf W _ _ _ _ _ h; omega
  | succ N ih =>
    intro n k us v p sc s vp vf W hF hS hkd hwf hwh hN h300 st hroom hsc
    have hlen := hF.length
    have HIH := hid ih
    have HF := hid hF
    have HS := hid hS
    have HWf := hid hwf
    have HWh := hid hwh
    have HN := hid hN
    have H300 := hid h300
    have HSt := hid st
    have HRm := hid hroom
    have HSc := hid hsc
    have HLn := hid hlen
    have HNo := hid (nodeOfF_calls W (shape_now hS hNF st) hF.ifaces (hwh n List.mem_cons_self) (by rw [hkd, hlen]))
    have HNa := hid (hwh n List.mem_cons_self).2
    obtain ⟨T, pv, hv⟩ := hS.iface
    subst hv
    obtain ⟨TG, hTG⟩ : ∃ TG, walkW n k sc s = TG := ⟨_, rfl⟩
    have HTG0 := hid hTG
    rw [hTG]
    clear hTG
    clear ih hF hS hwf hwh hN h300 st hroom hsc hlen hkd
    go_enter Tryz.func14, Tryz.ntmps14
    go_wp2_with fail
    refine HNo.out.mono ?_
    rintro e W1 ⟨rfl, hb1⟩
    obtain ⟨kd, num, a, b, c, kids⟩ := n
    unfold ndV
    dsimp only at *
    have hb6 := (MapKept.heap_alloc W1 (.cells #[.int .i64 kd, .int .i64 num, .string a, .string b, .string c, .int .i64 kids] 29)).1
    have hb2 := hb1.trans (((Below.refl W1.heap.size W1).alloc (Nat.le_refl _) (.cells #[.int .i64 kd, .int .i64 num, .string a, .string b, .string c, .int .i64 kids] 29)).mono hb1.size)
    have HSt2 := hid (HSt.out.below hb2)
    have HSc2 := hid (HSc.out.below hb2)
    have hlt6 : W.heap.size ≤ W1.heap.size := hb1.size
    have HB2 := hid hb2
    clear HNo hb1 hb2
    go_upto_region 1 with fail
    generalize W1.alloc (.cells #[.int .i64 kd, .int .i64 num, .string a, .string b, .string c, .int .i64 kids] 29) = W2 at *
    generalize W1.heap.size = b6 at *
    have c0 := cell_of_heap hb6 0
    have c1 := cell_of_heap hb6 1
    have c2 := cell_of_heap hb6 2
    have c3 := cell_of_heap hb6 3
    have c4 := cell_of_heap hb6 4
    have c5 := cell_of_heap hb6 5
    simp at c0 c1 c2 c3 c4 c5
    have HRe := hid (rename_calls ⟨kd, num, a, b, c, kids⟩ p sc W2 HSt2.out hL h0 HRm.out.small HSc2.out HNa.out)
    unfold ndV at HRe
    dsimp only at HRe
    go_wp2_with fail
    refine HRe.out.mono ?_
    rintro e W3 ⟨rfl, ⟨vf1, hn3, hm3⟩, hf3⟩
    obtain ⟨m, hm⟩ : ∃ m, renZ ⟨kd, num, a, b, c, kids⟩ sc s.made = m := ⟨_, rfl⟩
    have HMe := hid hm
    rw [hm]
    clear hm HRe
    obtain ⟨mk, mn, ma, mb, mc, mi⟩ := m
    dsimp only
    have K3 : Hid (Wlk W0 Nb W vp vf ⟨s.plain, s.free ++ lostZ ⟨kd, num, a, b, c, kids⟩ sc, s.made + makesZ kd⟩ vp vf1 W3) := ((⟨HSt.out, Nfr.of_below (Below.refl _ _), Or.inl rfl, Or.inl rfl⟩ : Wlk W0 Nb W vp vf s vp vf W).below HB2.out).step hn3 hf3 (Or.inl rfl) hm3
    have HSc3 := hid (HSc2.out.frame HSt2.out hf3)
    have f6 := (free_new (X := W) HSt.out hlt6 (heap_lt hb6)).step hf3 (Or.inl rfl) hm3
    have hb6' := f6.2.trans hb6
    have F6 := hid f6.1
    have HB6 := hid hb6'
    clear hb6 hb6' f6 hn3 hf3 hm3 HSc2 HSt2 HB2 c0 c1 c2 c3 c4 c5
    have hb7 := (MapKept.heap_alloc W3 (.cells #[.int .i64 mk, .int .i64 mn, .string ma, .string mb, .string mc, .int .i64 mi] 29)).1
    have hb4 := (Below.refl W3.heap.size W3).alloc (Nat.le_refl _) (.cells #[.int .i64 mk, .int .i64 mn, .string ma, .string mb, .string mc, .int .i64 mi] 29)
    go_upto_region 2 with fail
    generalize W3.alloc (.cells #[.int .i64 mk, .int .i64 mn, .string ma, .string mb, .string mc, .int .i64 mi] 29) = W4 at *
    have F7 := hid (free_new K3.out.st (Nat.le_refl _) (heap_lt hb7))
    have K4 := hid (K3.out.below hb4)
    have HSc4 := hid (HSc3.out.below hb4)
    have f6 := F6.out.below hb4
    have HB6' := hid (f6.2.trans HB6.out)
    have F6' := hid f6.1
    have HB7 := hid hb7
    have hlt7 : W3.heap.size < W4.heap.size := heap_lt hb7
    generalize W3.heap.size = b7 at *
    clear hb4 hb7 f6 K3 HSc3 F6 HB6
    obtain ⟨ad, cp, hvp⟩ := own_slice K4.out.st.prow
    dsimp only at hvp
    subst hvp
    have d0 := cell_of_heap K4.out.st.blk 0
    simp at d0
    have hNl : Nb < W4.heap.size := heap_lt K4.out.st.blk
    have e0 := cell_of_heap HB7.out 0
    have e1 := cell_of_heap HB7.out 1
    have e2 := cell_of_heap HB7.out 2
    have e3 := cell_of_heap HB7.out 3
    have e4 := cell_of_heap HB7.out 4
    have e5 := cell_of_heap HB7.out 5
    simp at e0 e1 e2 e3 e4 e5
    have q0 : ∀ y : Later W4.heap.size W4, y.w.cell? ⟨Nb, 0, none⟩ = _ := fun y => y.cell hNl d0
    have p0 : ∀ y : Later W4.heap.size W4, y.w.cell? ⟨b7, 0, none⟩ = _ := fun y => y.cell hlt7 e0
    have p1 : ∀ y : Later W4.heap.size W4, y.w.cell? ⟨b7, 1, none⟩ = _ := fun y => y.cell hlt7 e1
    have p2 : ∀ y : Later W4.heap.size W4, y.w.cell? ⟨b7, 2, none⟩ = _ := fun y => y.cell hlt7 e2
    have p3 : ∀ y : Later W4.heap.size W4, y.w.cell? ⟨b7, 3, none⟩ = _ := fun y => y.cell hlt7 e3
    have p4 : ∀ y : Later W4.heap.size W4, y.w.cell? ⟨b7, 4, none⟩ = _ := fun y => y.cell hlt7 e4
    have p5 : ∀ y : Later W4.heap.size W4, y.w.cell? ⟨b7, 5, none⟩ = _ := fun y => y.cell hlt7 e5
    clear d0 e0 e1 e2 e3 e4 e5
    refine till_begin (c := 7) (S := fun w' => ∃ x : Later W4.heap.size W4, w' = x.w) (by kernel_rfl) ?_
    refine till_walk (by kernel_rfl) 6 0 _ _ (by kernel_rfl) (by kernel_rfl) ⟨⟨W4.drew, (Below.refl _ _).drew⟩, rfl⟩ ?_
    simp only [List.drop_zero, List.take_succ_cons, List.take_zero]
    repeat (go_big_quiet_step (fail))
    refine wpQuiet_nil ?_
    rintro w7 ⟨x1, rfl⟩
    have hL1 := x1.h
    clear q0 p0 p1 p2 p3 p4 p5
    generalize x1.w = X1 at *
    refine till_make (k := 6) (v := .slice (some ⟨X1.heap.size, 0, none⟩) 1 1) (w1 := X1.alloc (.cells #[.int .i64 mk, .int .i64 mn, .string ma, .string mb, .string mc, .int .i64 mi] 29)) (by decide) rfl (by kernel_rfl) rfl (by simp [go_sem]) ⟨⟨_, hL1.alloc (by have := hL1.size; omega) _⟩, rfl⟩ (by simp [go_sem]; exact rfl) ?_
    have hE := (MapKept.heap_alloc X1 (.cells #[.int .i64 mk, .int .i64 mn, .string ma, .string mb, .string mc, .int .i64 mi] 29)).1
    have hK := hL1.trans (((Below.refl X1.heap.size X1).alloc (Nat.le_refl _) (.cells #[.int .i64 mk, .int .i64 mn, .string ma, .string mb, .string mc, .int .i64 mi] 29)).mono hL1.size)
    generalize X1.alloc (.cells #[.int .i64 mk, .int .i64 mn, .string ma, .string mb, .string mc, .int .i64 mi] 29) = X2 at *
    have K5 := hid (K4.out.below hK)
    have HSc5 := hid (HSc4.out.below hK)
    have f6 := F6'.out.below hK
    have f7 := F7.out.below hK
    obtain ⟨i0, hi, hz0, hz1, hz2⟩ := info_parts info_nd
    obtain ⟨vp2, X3, hrun, hown, hgrow, -, hat⟩ := run_append_own_at (P := Tryz.prog) X2 W0.heap.size 23 23 29 i0 _ 6 72 Tryz.underlying23 hi hz0 hz1 hz2 rfl (by decide) (.slice ad s.plain.length cp) s.plain.length (ndRow s.plain) K5.out.st.prow ⟨X1.heap.size, 0, none⟩ 1 1 [.int .i64 mk, .int .i64 mn, .string ma, .string mb, .string mc, .int .i64 mi] rfl (fun j u hu => by
      match j, hu with
      | 0, hu => simp at hu; subst hu; exact cell_of_heap hE 0
      | 1, hu => simp at hu; subst hu; exact cell_of_heap hE 1
      | 2, hu => simp at hu; subst hu; exact cell_of_heap hE 2
      | 3, hu => simp at hu; subst hu; exact cell_of_heap hE 3
      | 4, hu => simp at hu; subst hu; exact cell_of_heap hE 4
      | 5, hu => simp at hu; subst hu; exact cell_of_heap hE 5) (fun u hu => by
      simp at hu
      rcases hu with rfl | rfl | rfl | rfl | rfl | rfl <;> rfl) (by have := HRm.out.plain; unfold maxLen; omega) (by have := HRm.out.plain; omega) K5.out.st.size
    have hnx := nms_plain (m := ⟨mk, mn, ma, mb, mc, mi⟩) K5.out.st hown hgrow hat
    refine till_cut (v := vp2) (w1 := X3) rfl (by kernel_rfl) rfl (append_run (s := .tmp 24) (x := .tmp 26) (t := 23) rfl rfl rfl hrun) (by simp [go_sem]; exact rfl) ?_
    refine any_stage (fun _ => True) ?_
    have hnbk : X3.heap[Nb]? = X2.heap[Nb]? := hgrow.block Nb (heap_lt K5.out.st.blk) (fun e => (K5.out.st.apart K5.out.st.blk).1 (by decide) e.symm)
    have hb3 := hnbk.trans K5.out.st.blk
    have d1 := cell_of_heap hb3 0
    have w1 := frozen_of_heap hb3 0
    simp at d1
    obtain ⟨ad2, cp2, hv2⟩ := own_slice hown
    subst hv2
    refine stage_make (k := 8) (v := .pointer (some ⟨Nb, 0, none⟩)) (w1 := X3) rfl (by kernel_rfl) rfl (by simp [go_sem]) trivial (by simp [go_sem]; exact rfl) ?_
    refine stage_make (k := 9) (v := .pointer (some ⟨Nb, 0, none⟩)) (w1 := X3) rfl (by kernel_rfl) rfl (by simp [go_sem]) trivial (by simp [go_sem]; exact rfl) ?_
    refine stage_skip (k := 10) rfl (w1 := X3.setCell ⟨Nb, 0, none⟩ (.slice ad2 (s.plain.length + 1) cp2)) rfl (by kernel_rfl) rfl (by simp [go_sem, d1, w1]) trivial ?_
    refine stage_end (by kernel_rfl) ?_
    have K7 := hid (K5.out.step hnx.1 hnx.2.1 hnx.2.2 (Or.inl rfl))
    have HSc7 := hid (HSc5.out.frame K5.out.st hnx.2.1)
    have g6 := f6.1.step hnx.2.1 hnx.2.2 (Or.inl rfl)
    have g7 := f7.1.step hnx.2.1 hnx.2.2 (Or.inl rfl)
    have HB6 := hid (g6.2.trans (f6.2.trans HB6'.out))
    have HB7' := hid (g7.2.trans (f7.2.trans HB7.out))
    have F6 := hid g6.1
    have F7' := hid g7.1
    clear hnx hrun hown hgrow hat hE hK hi hz0 hz1 hz2 hnbk hb3 d1 w1 K5 HSc5 f6 f7 g6 g7 hL1 F6' F7 HB6' HB7 HSc4 K4 hNl hlt7
    generalize X3.setCell ⟨Nb, 0, none⟩ (.slice ad2 (s.plain.length + 1) cp2) = W7 at *
    have hK := kidsOf (shape_now HS.out hNF K7.out.st) HF.out.ifaces
    obtain ⟨T', pv', g', rv', e1, hmth', hcf', hKd⟩ := hK
    cases e1
    have HK := hid hKd
    clear hKd
    go_wp2_with fail
    refine HK.out.mono ?_
    rintro e W8 ⟨sv, rfl, hsl, hb8⟩
    have K8 := hid (K7.out.below hb8)
    have HSc8 := hid (HSc7.out.below hb8)
    have g6 := F6.out.below hb8
    have g7 := F7'.out.below hb8
    have HB6' := hid (g6.2.trans HB6.out)
    have HB7 := hid (g7.2.trans HB7'.out)
    have F6' := hid g6.1
    have F7 := hid g7.1
    have HW7 := hid K7.out.st
    have HTG : Hid (kidsW ⟨kd, num, a, b, c, kids⟩ ⟨mk, mn, ma, mb, mc, mi⟩ 0 k sc ⟨s.plain ++ [⟨mk, mn, ma, mb, mc, mi⟩], s.free ++ lostZ ⟨kd, num, a, b, c, kids⟩ sc, s.made + makesZ kd⟩ = TG) := by
      show _ = _
      rw [← HTG0.out]
      unfold walkW stepW
      rw [HMe.out]
    have HRm8 : Hid (Room k.flat.length ⟨s.plain ++ [⟨mk, mn, ma, mb, mc, mi⟩], s.free ++ lostZ ⟨kd, num, a, b, c, kids⟩ sc, s.made + makesZ kd⟩) := by
      have h1 := HRm.out.plain
      have h2 := HRm.out.free
      have h3 := HRm.out.made
      have h4 := lostZ_len ⟨kd, num, a, b, c, kids⟩ sc
      have h5 := makesZ_le kd
      refine ⟨?_, ?_, ?_⟩
      · simp only [List.length_append, List.length_cons, List.length_nil]
        omega
      · simp only [List.length_append]
        omega
      · dsimp only
        omega
    generalize (⟨s.plain ++ [⟨mk, mn, ma, mb, mc, mi⟩], s.free ++ lostZ ⟨kd, num, a, b, c, kids⟩ sc, s.made + makesZ kd⟩ : Wst) = s8 at *
    clear HK hmth' hcf' K7 HSc7 g6 g7 F6 F7' HB6 HB7' HNa HTG0
    rcases hsl with ⟨rfl, ad8, c8, rfl⟩ | ⟨g0, o, cap, rfl, hg7, hg0, hc0⟩
    · have hk : k = .none := by
        have := HLn.out
        cases k with
        | none => rfl
        | tree => simp [Fo.count] at this
      subst hk
      have HT := HTG.out
      simp only [kidsW] at HT
      subst HT
      clear hb8
      go_wp2_with fail
      refine wp_loop_rounds 1 ?_
      rw [rounds_succ]
      go_wp2_with fail
      go_end0
      exact ⟨⟨_, rfl⟩, _, _, K8.out.st, K8.out.fr, K8.out.mp, K8.out.mf⟩
    · have F0 := hid (free_new HW7.out hg7 hg0)
      obtain ⟨L, hL8⟩ : ∃ L, us.length = L := ⟨_, rfl⟩
      have HC0 : Hid (us.length = L ∧ ∀ j, j < us.length → W8.cell? ⟨g0, o + j, none⟩ = us[j]?) := ⟨hL8, hc0⟩
      rw [hL8]
      clear hc0 hL8 hb8 hg7 hg0 HW7
      go_wp2_with fail
      go_loopw [33] (fun i wr => ∃ (i' : Nat) (r : Fo) (rest : List Value) (s' : Wst) (vp' vf' : Value), i = .int .i64 i' ∧ Hid (Forms BF W0 r rest ∧ us.drop i' = rest ∧ i' + r.count = L ∧ r.wf ∧ (∀ m ∈ r.flat, Whole m) ∧ r.flat.length ≤ k.flat.length) ∧ Hid (Room r.flat.length s' ∧ kidsW ⟨kd, num, a, b, c, kids⟩ ⟨mk, mn, ma, mb, mc, mi⟩ i' r sc s' = TG) ∧ Hid (Wlk W0 Nb W (.slice ad s.plain.length cp) vf s' vp' vf' wr) ∧ Hid (ScoAt wr p sc) ∧ Hid (Free Nb b6 vp' vf' wr ∧ wr.heap[b6]? = W8.heap[b6]?) ∧ Hid (Free Nb b7 vp' vf' wr ∧ wr.heap[b7]? = W8.heap[b7]?) ∧ Hid (Free Nb g0 vp' vf' wr ∧ wr.heap[g0]? = W8.heap[g0]?)) (fun i _ => L - (intOf i).toNat)
      case atStart => exact ⟨0, k, us, s8, _, _, rfl, ⟨HF.out, rfl, by rw [← HC0.out.1, HLn.out]; omega, HWf.out, fun m hm => HWh.out m (List.mem_cons_of_mem _ hm), Nat.le_refl _⟩, ⟨HRm8.out, HTG.out⟩, K8, HSc8, ⟨F6'.out, rfl⟩, ⟨F7.out, rfl⟩, ⟨F0.out, rfl⟩⟩
      case round =>
        obtain ⟨i', r, rest, s', vp', vf', rfl, HR, HRT, KR, HScR, G6, G7, G0⟩ := hrel
        cases r with
        | none =>
          obtain ⟨-, -, h1, -⟩ := HR.out
          simp only [Fo.count] at h1
          have h1' : i' = L := by omega
          subst h1'
          have HT := HRT.out.2
          simp only [kidsW] at HT
          subst HT
          clear HR h1 HRT HTG
          go_wp2_with fail
          go_end0
          exact ⟨⟨_, rfl⟩, _, _, KR.out.st, KR.out.fr, KR.out.mp, KR.out.mf⟩
        | tree n' k' r' =>
          obtain ⟨⟨v', us', rest', e1, hF1, hS1, hF2⟩, e2, h1, h2, h3, h4⟩ := HR.out
          obtain ⟨h2a, h2b, h2c⟩ := h2
          simp only [Fo.count, Fo.flat, List.length_cons, List.length_append] at h1 h4
          rw [e1] at e2
          have hi : (i' : Int) < (L : Int) := by omega
          have hil : i' < us.length := by rw [HC0.out.1]; omega
          have hcell : wr.cell? ⟨g0, o + i', none⟩ = some v' := by
            rw [World.cell?_of_block (a := ⟨g0, o + i', none⟩) G0.out.2, HC0.out.2 i' hil]
            rw [List.drop_eq_getElem_cons hil] at e2
            rw [List.getElem?_eq_getElem hil, (List.cons.inj e2).1]
          have hdrop : us.drop (i' + 1) = rest' := by
            rw [List.drop_eq_getElem_cons hil] at e2
            exact (List.cons.inj e2).2
          obtain ⟨T', p', rfl⟩ := hS1.iface
          have Hsub := hid (And.intro hF1 (And.intro hS1 (And.intro h2a h2b)))
          have Hrst : Hid (Forms BF W0 r' rest' ∧ us.drop (i' + 1) = rest' ∧ i' + 1 + r'.count = L ∧ r'.wf ∧ (∀ m ∈ r'.flat, Whole m) ∧ r'.flat.length ≤ k.flat.length) := ⟨hF2, hdrop, by omega, h2c, fun m hm => h3 m (by simp only [Fo.flat, List.mem_cons, List.mem_append]; exact Or.inr (Or.inr hm)), by omega⟩
          have Hwh' : Hid (∀ m ∈ n' :: k'.flat, Whole m) := fun m hm => h3 m (by
            simp only [Fo.flat, List.mem_cons, List.mem_append]
            rcases List.mem_cons.1 hm with h | h
            · exact Or.inl h
            · exact Or.inr (Or.inl h))
          have Hle : Hid (k'.flat.length + 1 + r'.flat.length ≤ k.flat.length) := by show _ ≤ _; omega
          have hx6 := G6.out.2.trans HB6'.out
          have hx7 := G7.out.2.trans HB7.out
          have c0 := cell_of_heap hx7 0
          have c1 := cell_of_heap hx7 1
          have c2 := cell_of_heap hx7 2
          have c3 := cell_of_heap hx7 3
          have c4 := cell_of_heap hx7 4
          have c5 := cell_of_heap hx7 5
          simp at c0 c1 c2 c3 c4 c5
          have HKn := hid (known_calls ⟨mk, mn, ma, mb, mc, mi⟩ i' wr)
          unfold ndV at HKn
          dsimp only at HKn
          have HX6 := hid hx6
          clear HR hF1 hS1 hF2 e1 e2 h1 h2a h2b h2c h3 h4 hil hdrop hx6 hx7
          have hi0 : (0 : Int) ≤ (i' : Int) := by omega
          go_wp2_with fail
          refine HKn.out.mono ?_
          rintro e W9 ⟨sv1, rfl, hsl1, hb9⟩
          obtain ⟨ad1, cc1, rfl, hn1⟩ := names_at hsl1
          have HN1 := hid hn1
          have HX6' := hid ((hb9.block _ (heap_lt HX6.out)).trans HX6.out)
          have HB9 := hid hb9
          have c0 := cell_of_heap HX6'.out 0
          have c1 := cell_of_heap HX6'.out 1
          have c2 := cell_of_heap HX6'.out 2
          have c3 := cell_of_heap HX6'.out 3
          have c4 := cell_of_heap HX6'.out 4
          have c5 := cell_of_heap HX6'.out 5
          simp at c0 c1 c2 c3 c4 c5
          have HKn2 := hid (known_calls ⟨kd, num, a, b, c, kids⟩ i' W9)
          unfold ndV at HKn2
          dsimp only at HKn2
          clear hsl1 hn1 hb9 HKn HX6 hcell
          go_wp2_with fail
          refine HKn2.out.mono ?_
          rintro e W10 ⟨sv2, rfl, hsl2, hb10⟩
          obtain ⟨ad2', cc2, rfl, hn2⟩ := names_at hsl2
          have HN2 := hid hn2
          have HN1' := hid (HN1.out.below hb10)
          have HB10 := hid (HB9.out.trans (hb10.mono HB9.out.size))
          have hsame : (knownZ ⟨kd, num, a, b, c, kids⟩ i').length = (knownZ ⟨mk, mn, ma, mb, mc, mi⟩ i').length := knownZ_same (by
            have e := renZ_kind ⟨kd, num, a, b, c, kids⟩ sc s.made
            rw [HMe.out] at e
            exact e.symm) i'
          have HOp : Hid (openS ⟨kd, num, a, b, c, kids⟩ ⟨mk, mn, ma, mb, mc, mi⟩ i' sc = ((knownZ ⟨kd, num, a, b, c, kids⟩ i').zip (knownZ ⟨mk, mn, ma, mb, mc, mi⟩ i')).foldl (fun s p => p :: s) sc) := rfl
          have HSm := hid hsame
          have hl2 := knownZ_len ⟨kd, num, a, b, c, kids⟩ i'
          generalize hk1 : knownZ ⟨kd, num, a, b, c, kids⟩ i' = xs at *
          generalize hk2 : knownZ ⟨mk, mn, ma, mb, mc, mi⟩ i' = ys at *
          obtain ⟨M, hM⟩ : ∃ M, xs.length = M := ⟨_, rfl⟩
          have HMl := hid hM
          rw [← hsame, hM]
          clear hsl2 hn2 hb10 HKn2 c0 c1 c2 c3 c4 c5 HN1 HX6' hk1 hk2 hsame hM
          have HSc10 := hid (HScR.out.below HB10.out)
          have K10 := hid (KR.out.below HB10.out)
          have G6' := hid (G6.out.1.below HB10.out)
          have G7' := hid (G7.out.1.below HB10.out)
          have G0' := hid (G0.out.1.below HB10.out)
          have HG6 := hid (G6'.out.2.trans G6.out.2)
          have HG7 := hid (G7'.out.2.trans G7.out.2)
          have HG0 := hid (G0'.out.2.trans G0.out.2)
          clear HScR KR G6 G7 G0 HB10 HB9
          have hM2 : M ≤ 2 := by rw [← HMl.out]; exact hl2
          clear hl2
          have H300' := hid H300.out
          go_wp2_with fail
          go_loopw [10, 46] (fun pin j wj => ∃ (j' : Nat) (q : Option Addr), pin = .pointer q ∧ j = .int .i64 j' ∧ Hid (j' ≤ M ∧ ScoAt wj q (((xs.zip ys).take j').foldl (fun s p => p :: s) sc)) ∧ Hid (Below W10.heap.size W10 wj)) (fun _ j _ => M - (intOf j).toNat)
          case atStart => exact ⟨0, p, rfl, rfl, ⟨Nat.zero_le _, by simpa using HSc10.out⟩, Below.refl _ _⟩
          case round =>
            obtain ⟨j', q, rfl, rfl, HJ, HBj⟩ := hrel
            by_cases hjl : (j' : Int) < (M : Int)
            · have hjx : j' < xs.length := by rw [HMl.out]; omega
              have hjy : j' < ys.length := by rw [← HSm.out]; exact hjx
              obtain ⟨g2, o2, ea2, hg2, hc2⟩ := HN2.out.resolve_left (by omega)
              obtain ⟨g1, o1, ea1, hg1, hc1⟩ := HN1'.out.resolve_left (by omega)
              subst ea2
              subst ea1
              have q2 := (HBj.out.cell (p := ⟨g2, o2 + j', none⟩) hg2).trans (hc2 j' hjx)
              have q1 := (HBj.out.cell (p := ⟨g1, o1 + j', none⟩) hg1).trans (hc1 j' hjy)
              have HZ := hid (zip_take xs ys j' hjx HSm.out sc)
              have hjM : (j' : Int) < ((ys.length : Nat) : Int) := by omega
              have hyM : ys.length = M := by rw [← HSm.out]; exact HMl.out
              generalize xs.getD j' ⟨#[]⟩ = x at *
              generalize ys.getD j' ⟨#[]⟩ = y at *
              have hj0 : (0 : Int) ≤ (j' : Int) := by omega
              clear hc2 hc1 hg2 hg1 hjM hyM hjx hjy
              go_wp2_with fail
              refine (with_calls _ _ _ _).mono ?_
              rintro e W11 ⟨rfl, rfl⟩
              go_wp2_with fail
              refine ⟨⟨j' + 1, _, rfl, rfl, ⟨by omega, ?_⟩, HBj.out.alloc HBj.out.size _⟩, lt_step' hjl⟩
              rw [HZ.out]
              exact ⟨_, q, rfl, (MapKept.heap_alloc _ _).1, HJ.out.2.below ((Below.refl _ _).alloc (Nat.le_refl _) _)⟩
            · have hjM : j' = M := by have := HJ.out.1; omega
              subst hjM
              have HScj : Hid (ScoAt wr q (openS ⟨kd, num, a, b, c, kids⟩ ⟨mk, mn, ma, mb, mc, mi⟩ i' sc)) := by
                rw [HOp.out]
                have e := HJ.out.2
                rw [List.take_of_length_le (by rw [List.length_zip, HMl.out]; omega)] at e
                exact e
              obtain ⟨sc', hsc'⟩ : ∃ sc', openS ⟨kd, num, a, b, c, kids⟩ ⟨mk, mn, ma, mb, mc, mi⟩ i' sc = sc' := ⟨_, rfl⟩
              rw [hsc'] at HScj
              have HSO := hid hsc'
              have Kj := hid (K10.out.below HBj.out)
              have g6 := G6'.out.1.below HBj.out
              have g7 := G7'.out.1.below HBj.out
              have gg0 := G0'.out.1.below HBj.out
              have HScp := hid (HSc10.out.below HBj.out)
              have hRm := HRT.out.1
              simp only [Fo.flat, List.length_cons, List.length_append] at hRm
              have hRm1 : Room (k'.flat.length + 1) s' := ⟨by have := hRm.plain; omega, by have := hRm.free; omega, by have := hRm.made; omega⟩
              have hRm2 : Room (1 + k'.flat.length + r'.flat.length) s' := ⟨by have := hRm.plain; omega, by have := hRm.free; omega, by have := hRm.made; omega⟩
              have HRm2 := hid (walkW_room (n := n') (sc := sc') hRm2)
              have HCl := hid (HIH.out n' k' us' (.iface T' p') q sc' s' vp' vf' wr Hsub.out.1 Hsub.out.2.1 Hsub.out.2.2.1 Hsub.out.2.2.2 Hwh'.out (by have := Hle.out; have := HN.out; omega) (by have := Hle.out; have := H300'.out; omega) Kj.out.st hRm1 HScj.out)
              clear hsc' hRm hRm1 hRm2
              go_wp2_with fail
              refine HCl.out.mono ?_
              rintro e W12 ⟨⟨xx, rfl⟩, vp2, vf2, hn12, hf12, hp12, hq12⟩
              have K12 := hid (Kj.out.step hn12 hf12 hp12 hq12)
              have HSc12 := hid (HScp.out.frame Kj.out.st hf12)
              have r6 := g6.1.step hf12 hp12 hq12
              have r7 := g7.1.step hf12 hp12 hq12
              have r0 := gg0.1.step hf12 hp12 hq12
              have HE6 := hid (r6.2.trans (g6.2.trans HG6.out))
              have HE7 := hid (r7.2.trans (g7.2.trans HG7.out))
              have HE0 := hid (r0.2.trans (gg0.2.trans HG0.out))
              have HR6 := hid r6.1
              have HR7 := hid r7.1
              have HR0 := hid r0.1
              have HTn : Hid (kidsW ⟨kd, num, a, b, c, kids⟩ ⟨mk, mn, ma, mb, mc, mi⟩ (i' + 1) r' sc (walkW n' k' sc' s') = TG) := by
                have e := HRT.out.2
                simp only [kidsW] at e
                rw [HSO.out] at e
                exact e
              have hi9 : i' ≤ 1048576 := by have := HC0.out.1; have := HLn.out; have := Fo.count_le k; have := H300'.out; omega
              clear hn12 hf12 hp12 hq12 r6 r7 r0 g6 g7 gg0 HCl Kj HScp
              go_wp2_with fail
              exact ⟨⟨i' + 1, r', rest', walkW n' k' sc' s', vp2, vf2, rfl, Hrst, ⟨HRm2.out, HTn.out⟩, K12, HSc12, ⟨HR6.out, HE6.out⟩, ⟨HR7.out, HE7.out⟩, ⟨HR0.out, HE0.out⟩⟩, lt_step' hi⟩
end Go.Proofs.YtfmeldjkofoelaaGreatDoor
