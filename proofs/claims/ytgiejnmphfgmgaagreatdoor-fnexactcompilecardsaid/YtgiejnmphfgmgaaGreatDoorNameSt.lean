/- What the namer keeps in memory: the nodes named anew, the names found free; scopes. -/
import Derived.Test.YtgiejnmphfgmgaaGreatDoorNamePure
import Derived.Test.YtgiejnmphfgmgaaGreatDoorNodeOf
import Derived.Test.YtgiejnmphfgmgaaGreatDoorOwnRow
namespace Go.Proofs.YtgiejnmphfgmgaaGreatDoor
open Go.RowKit Go.Deep

/-- A row moved, or it did not. -/
def Movd (W : World) (v v' : Value) : Prop := v'.ownBlock = v.ownBlock ∨ ∃ g, v'.ownBlock = some g ∧ W.heap.size ≤ g

theorem Movd.trans {W W' : World} {a b c : Value} (hs : W.heap.size ≤ W'.heap.size) (h : Movd W a b) (h' : Movd W' b c) : Movd W a c := by
  rcases h' with h' | ⟨g, h', hg⟩
  · rcases h with h | ⟨g, h, hg⟩
    · exact Or.inl (h'.trans h)
    · exact Or.inr ⟨g, h'.trans h, hg⟩
  · exact Or.inr ⟨g, h', Nat.le_trans hs hg⟩

theorem Movd.not {W : World} {a b : Value} (h : Movd W a b) {q : Nat} (hq : q < W.heap.size) (hn : a.ownBlock ≠ some q) : b.ownBlock ≠ some q := by
  intro e
  rcases h with h | ⟨g, h, hg⟩
  · exact hn (h.symm.trans e)
  · rw [h] at e
    cases e
    omega

/-- What the namer's functions leave as it was. -/
structure Nfr (Nb : Nat) (vp vf : Value) (W W' : World) : Prop where
  os : W'.os = W.os
  tape : W'.tape = W.tape
  output : W'.output = W.output
  size : W.heap.size ≤ W'.heap.size
  block : ∀ q, q < W.heap.size → q ≠ Nb → vp.ownBlock ≠ some q → vf.ownBlock ≠ some q → W'.heap[q]? = W.heap[q]?

theorem Nfr.of_below {Nb : Nat} {vp vf : Value} {W W' : World} (h : Below W.heap.size W W') : Nfr Nb vp vf W W' := ⟨h.os, h.tape, h.output, h.size, fun q hq _ _ _ => h.block q hq⟩

theorem Nfr.trans {Nb : Nat} {vp vf vp' vf' : Value} {W W' W'' : World} (h : Nfr Nb vp vf W W') (hp : Movd W vp vp') (hf : Movd W vf vf') (h' : Nfr Nb vp' vf' W' W'') : Nfr Nb vp vf W W'' :=
  ⟨h'.os.trans h.os, h'.tape.trans h.tape, h'.output.trans h.output, Nat.le_trans h.size h'.size, fun q hq h1 h2 h3 => (h'.block q (Nat.lt_of_lt_of_le hq h.size) h1 (hp.not hq h2) (hf.not hq h3)).trans (h.block q hq h1 h2 h3)⟩

/-- The cells of nodes in a row. -/
def ndRow (ns : List Nd) : List Value := ns.flatMap fun n => [.int .i64 n.kind, .int .i64 n.num, .string n.a, .string n.b, .string n.c, .int .i64 n.kids]

theorem ndRow_snoc (ns : List Nd) (n : Nd) : ndRow (ns ++ [n]) = ndRow ns ++ [.int .i64 n.kind, .int .i64 n.num, .string n.a, .string n.b, .string n.c, .int .i64 n.kids] := by
  unfold ndRow
  rw [List.flatMap_append]
  rfl

def strRow (ss : List ByteArray) : List Value := ss.map fun s => .string s

theorem strRow_snoc (ss : List ByteArray) (s : ByteArray) : strRow (ss ++ [s]) = strRow ss ++ [.string s] := by
  unfold strRow
  rw [List.map_append]
  rfl

theorem own_type {W : World} {B : Nat} {e : TypeId} {sz : Nat} {v : Value} {n : Nat} {xs : List Value} (h : W.ownsRow B e sz v n xs) {g : Nat} (hg : v.ownBlock = some g) : B ≤ g ∧ ∃ cur, W.heap[g]? = some (.cells cur e) := by
  obtain ⟨-, ⟨rfl, h0⟩ | ⟨g', cap, cur, rfl, hB, hc, -⟩⟩ := h
  · simp [Value.ownBlock] at hg
  · simp [Value.ownBlock] at hg
    subst hg
    exact ⟨hB, cur, hc⟩

theorem own_slice {W : World} {B : Nat} {e : TypeId} {sz : Nat} {v : Value} {n : Nat} {xs : List Value} (h : W.ownsRow B e sz v n xs) : ∃ ad c, v = .slice ad n c := by
  obtain ⟨-, ⟨rfl, h0⟩ | ⟨g', cap, cur, rfl, -⟩⟩ := h
  · exact ⟨none, 0, by rw [h0]⟩
  · exact ⟨_, _, rfl⟩

theorem own_same {W W' : World} {B : Nat} {e : TypeId} {sz : Nat} {v : Value} {n : Nat} {xs : List Value} (h : W.ownsRow B e sz v n xs) (he : ∀ g, v.ownBlock = some g → W'.heap[g]? = W.heap[g]?) : W'.ownsRow B e sz v n xs := by
  obtain ⟨h0, ⟨rfl, h1⟩ | ⟨g, cap, cur, rfl, hB, hc, hr⟩⟩ := h
  · exact ⟨h0, Or.inl ⟨rfl, h1⟩⟩
  · exact ⟨h0, Or.inr ⟨g, cap, cur, rfl, hB, (he g (by simp [Value.ownBlock])).trans hc, hr⟩⟩

/-- The namer, as it lies. -/
structure Nms (W0 : World) (Nb : Nat) (s : Wst) (vp vf : Value) (W : World) : Prop where
  blk : W.heap[Nb]? = some (.cells #[vp, vf, .int .i64 (s.made : Int)] 93)
  prow : W.ownsRow W0.heap.size 81 6 vp s.plain.length (ndRow s.plain)
  frow : W.ownsRow W0.heap.size 9 1 vf s.free.length (strRow s.free)
  os : W.os = W0.os
  tape : W.tape = W0.tape
  output : W.output = W0.output
  size : W0.heap.size ≤ W.heap.size
  kept : ∀ q, q < W0.heap.size → q ≠ Nb → W.heap[q]? = W0.heap[q]?
  nb : Nb < W0.heap.size

theorem Nms.below {W0 : World} {Nb : Nat} {s : Wst} {vp vf : Value} {W W' : World} (h : Nms W0 Nb s vp vf W) (hb : Below W.heap.size W W') : Nms W0 Nb s vp vf W' := by
  have hs := h.size
  exact ⟨(hb.block _ (heap_lt h.blk)).trans h.blk, own_same h.prow (fun g e => by obtain ⟨-, c, hc⟩ := own_type h.prow e; exact hb.block g (heap_lt hc)), own_same h.frow (fun g e => by obtain ⟨-, c, hc⟩ := own_type h.frow e; exact hb.block g (heap_lt hc)), hb.os.trans h.os, hb.tape.trans h.tape, hb.output.trans h.output, Nat.le_trans h.size hb.size, fun q hq hn => (hb.block q (by omega)).trans (h.kept q hq hn), h.nb⟩

/-- No row lies in the namer's own block, nor in a scope's, nor do both lie in one. -/
theorem Nms.apart {W0 : World} {Nb : Nat} {s : Wst} {vp vf : Value} {W : World} (h : Nms W0 Nb s vp vf W) {q : Nat} {c : Array Value} {t : TypeId} (hq : W.heap[q]? = some (.cells c t)) : (t ≠ 81 → vp.ownBlock ≠ some q) ∧ (t ≠ 9 → vf.ownBlock ≠ some q) := by
  constructor
  · intro ht e
    obtain ⟨-, cur, hc⟩ := own_type h.prow e
    rw [hq] at hc
    cases hc
    exact ht rfl
  · intro ht e
    obtain ⟨-, cur, hc⟩ := own_type h.frow e
    rw [hq] at hc
    cases hc
    exact ht rfl

/-- Scopes in memory, one around the other. -/
def ScoAt (W : World) : Option Addr → Sco → Prop
  | p, [] => p = none
  | p, (x, y) :: r => ∃ b q, p = some ⟨b, 0, none⟩ ∧ W.heap[b]? = some (.cells #[.string x, .string y, .pointer q] 173) ∧ ScoAt W q r

theorem ScoAt.kept {W W' : World} (h : ∀ (b : Nat) (c : Array Value), W.heap[b]? = some (Obj.cells c 173) → W'.heap[b]? = W.heap[b]?) : ∀ (sc : Sco) (p : Option Addr), ScoAt W p sc → ScoAt W' p sc
  | [], _, e => e
  | (_, _) :: r, _, ⟨b, q, e, hb, hr⟩ => ⟨b, q, e, (h b _ hb).trans hb, ScoAt.kept h r q hr⟩

theorem ScoAt.below {W W' : World} {sc : Sco} {p : Option Addr} (h : ScoAt W p sc) (hb : Below W.heap.size W W') : ScoAt W' p sc := ScoAt.kept (fun b _ e => hb.block b (heap_lt e)) sc p h

theorem ScoAt.frame {W0 : World} {Nb : Nat} {s : Wst} {vp vf : Value} {W W' : World} {sc : Sco} {p : Option Addr} (h : ScoAt W p sc) (n : Nms W0 Nb s vp vf W) (hf : Nfr Nb vp vf W W') : ScoAt W' p sc :=
  ScoAt.kept (fun b _ e => hf.block b (heap_lt e) (fun e2 => by subst e2; rw [n.blk] at e; cases e) ((n.apart e).1 (by decide)) ((n.apart e).2 (by decide))) sc p h

/-- The names of the walk are not many. -/
structure Wsm (s : Wst) : Prop where
  plain : s.plain.length ≤ 90000
  free : s.free.length ≤ 90000
  made : s.made ≤ 90000
end Go.Proofs.YtgiejnmphfgmgaaGreatDoor
