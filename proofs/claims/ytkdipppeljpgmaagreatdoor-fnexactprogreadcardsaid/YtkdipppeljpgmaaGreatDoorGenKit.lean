/- What a drawer of programs stands on: the reader of bytes, the drawer's own block, lists that lie elsewhere; what a draw costs. -/
import Derived.Test.YtkdipppeljpgmaaGreatDoorPickWalks
import Derived.Test.YtkdipppeljpgmaaGreatDoorOwnRow
import Derived.Test.YtkdipppeljpgmaaGreatDoorNodeArgs
namespace Go.Proofs.YtkdipppeljpgmaaGreatDoor
open Go.RowKit Go.Deep

/-- Where the reader lies, and the drawer; which bytes are read. -/
structure Dr where
  B : Nat
  G : Nat
  a0 : Option Addr
  len : Nat
  cap : Nat

/-- A block that is neither the reader's nor the drawer's. -/
def Dr.free (d : Dr) (W : World) (q : Nat) : Prop := q < W.heap.size ∧ q ≠ d.B ∧ q ≠ d.G

/-- Everything but the reader and the drawer lies as it lay. -/
structure Grew (d : Dr) (W W' : World) : Prop where
  os : W'.os = W.os
  tape : W'.tape = W.tape
  output : W'.output = W.output
  size : W.heap.size ≤ W'.heap.size
  block : ∀ q, d.free W q → W'.heap[q]? = W.heap[q]?

theorem Grew.refl (d : Dr) (W : World) : Grew d W W := ⟨rfl, rfl, rfl, Nat.le_refl _, fun _ _ => rfl⟩

theorem Dr.free.grew {d : Dr} {W W' : World} {q : Nat} (h : d.free W q) (g : Grew d W W') : d.free W' q := ⟨Nat.lt_of_lt_of_le h.1 g.size, h.2⟩

theorem Grew.trans {d : Dr} {W W' W'' : World} (h : Grew d W W') (g : Grew d W' W'') : Grew d W W'' :=
  ⟨g.os.trans h.os, g.tape.trans h.tape, g.output.trans h.output, Nat.le_trans h.size g.size, fun q hq => (g.block q (hq.grew h)).trans (h.block q hq)⟩

theorem Grew.of_below {d : Dr} {W W' : World} (h : Below W.heap.size W W') : Grew d W W' := ⟨h.os, h.tape, h.output, h.size, fun q hq => h.block q hq.1⟩

theorem Grew.alloc {d : Dr} {W W' : World} (h : Grew d W W') (o : Obj) : Grew d W (W'.alloc o) := h.trans (Grew.of_below ((Below.refl _ _).alloc (Nat.le_refl _) _))

theorem Grew.drew {d : Dr} {W W' : World} (h : Grew d W W') : Grew d W W'.drew := ⟨h.os, h.tape, h.output, h.size, h.block⟩

theorem Grew.below {d : Dr} {W W' : World} {n : Nat} (h : Grew d W W') (hn : n ≤ W.heap.size) (h1 : n ≤ d.B) (h2 : n ≤ d.G) : Below n W W' :=
  ⟨h.os, h.tape, h.output, h.size, fun q hq => h.block q ⟨by omega, by omega, by omega⟩⟩

theorem Grew.cell {d : Dr} {W W' : World} (h : Grew d W W') {p : Addr} (hq : d.free W p.block) : W'.cell? p = W.cell? p := World.cell?_of_block (h.block _ hq)

/-- A slice of n things of sz cells that lies elsewhere. -/
def Lies (d : Dr) (W : World) (v : Value) (n sz : Nat) (F : Nat → Value) : Prop :=
  (v = .slice none 0 0 ∧ n = 0) ∨ ∃ b off cap, v = .slice (some ⟨b, off, none⟩) n cap ∧ n ≤ cap ∧ off = 0 ∧ d.free W b ∧ ∀ i, i < n * sz → W.cell? ⟨b, off + i, none⟩ = some (F i)

theorem Lies.grew {d : Dr} {W W' : World} {v : Value} {n sz : Nat} {F : Nat → Value} (h : Lies d W v n sz F) (g : Grew d W W') : Lies d W' v n sz F := by
  rcases h with h | ⟨b, off, cap, rfl, hn, hz, hq, hc⟩
  · exact Or.inl h
  · exact Or.inr ⟨b, off, cap, rfl, hn, hz, hq.grew g, fun i hi => (g.cell (p := ⟨b, off + i, none⟩) hq).trans (hc i hi)⟩

theorem Lies.is {d : Dr} {W : World} {v : Value} {n sz : Nat} {F : Nat → Value} (h : Lies d W v n sz F) : ∃ ad cp, v = .slice ad n cp := by
  rcases h with ⟨rfl, rfl⟩ | ⟨b, off, cap, rfl, -⟩
  · exact ⟨_, _, rfl⟩
  · exact ⟨_, _, rfl⟩

theorem Lies.at {d : Dr} {W : World} {ad : Option Addr} {n cp n' sz : Nat} {F : Nat → Value} (h : Lies d W (.slice ad n cp) n' sz F) (h0 : 0 < n) : n' = n ∧ n ≤ cp ∧ ∃ b off, ad = some ⟨b, off, none⟩ ∧ d.free W b ∧ ∀ i, i < n * sz → W.cell? ⟨b, off + i, none⟩ = some (F i) := by
  rcases h with ⟨e, rfl⟩ | ⟨b, off, cap, e, hn, -, hq, hc⟩
  · cases e; omega
  · cases e
    exact ⟨rfl, hn, b, off, rfl, hq, hc⟩

/-- A name that is known. -/
structure Kn where
  name : ByteArray
  ty : Int
  res : Int

instance : Inhabited Kn := ⟨⟨ByteArray.empty, 0, 0⟩⟩

def Kn.cell (k : Kn) : Nat → Value
  | 0 => .string k.name
  | 1 => .int .i64 k.ty
  | _ => .int .i64 k.res

/-- Names are short. -/
def Brief (s : ByteArray) : Prop := s.size ≤ 100

def NodesD (d : Dr) (W : World) (v : Value) (ns : List Nd) : Prop := Lies d W v ns.length 6 (fun i => (ns.getD (i / 6) default).cell (i % 6)) ∧ ∀ n ∈ ns, Brief n.a ∧ Brief n.b ∧ Brief n.c
def KnowsD (d : Dr) (W : World) (v : Value) (ks : List Kn) : Prop := Lies d W v ks.length 3 (fun i => (ks.getD (i / 3) default).cell (i % 3)) ∧ ∀ k ∈ ks, Brief k.name
def BoolsD (d : Dr) (W : World) (v : Value) (ms : List Bool) : Prop := Lies d W v ms.length 1 (fun i => .bool (ms.getD i false))

theorem NodesD.grew {d : Dr} {W W' : World} {v : Value} {ns : List Nd} (h : NodesD d W v ns) (g : Grew d W W') : NodesD d W' v ns := ⟨h.1.grew g, h.2⟩
theorem KnowsD.grew {d : Dr} {W W' : World} {v : Value} {ks : List Kn} (h : KnowsD d W v ks) (g : Grew d W W') : KnowsD d W' v ks := ⟨h.1.grew g, h.2⟩
theorem BoolsD.grew {d : Dr} {W W' : World} {v : Value} {ms : List Bool} (h : BoolsD d W v ms) (g : Grew d W W') : BoolsD d W' v ms := Lies.grew h g

theorem getD_mem {α : Type} [Inhabited α] {l : List α} {k : Nat} (h : k < l.length) : l.getD k default ∈ l := by
  rw [show l.getD k default = l[k] by simp [List.getD, h]]
  exact List.getElem_mem h

theorem cell_div {α : Type} [Inhabited α] (l : List α) (f : α → Nat → Value) (sz k c : Nat) (hc : c < sz) : f (l.getD ((k * sz + c) / sz) default) ((k * sz + c) % sz) = f (l.getD k default) c := by
  rw [Nat.mul_comm k sz, Nat.mul_add_div (by omega), Nat.div_eq_of_lt hc, Nat.mul_add_mod, Nat.mod_eq_of_lt hc, Nat.add_zero]

theorem NodesD.slice {d : Dr} {W : World} {v : Value} {ns : List Nd} (h : NodesD d W v ns) : NodeSlice W v ns := by
  obtain ⟨h, -⟩ := h
  rcases h with ⟨rfl, h⟩ | ⟨b, off, cap, rfl, hn, -, hq, hc⟩
  · exact ⟨none, 0, by rw [h], Or.inl (List.eq_nil_of_length_eq_zero h)⟩
  · refine ⟨_, cap, rfl, Or.inr ⟨b, off, rfl, hq.1, fun k hk c hc' => ?_⟩⟩
    rw [Nat.add_assoc, hc (k * 6 + c) (by omega)]
    exact congrArg some (cell_div ns Nd.cell 6 k c hc')

theorem NodesD.short {d : Dr} {W : World} {v : Value} {ns : List Nd} (h : NodesD d W v ns) : Short ns := fun n hn => by
  obtain ⟨h1, h2, h3⟩ := h.2 n hn
  unfold Brief at h1 h2 h3
  unfold maxLen
  omega

theorem KnowsD.at {d : Dr} {W : World} {ad : Option Addr} {n cp : Nat} {ks : List Kn} (h : KnowsD d W (.slice ad n cp) ks) {i : Nat} (hi : i < n) : ∃ b off nm ty res, ad = some ⟨b, off, none⟩ ∧ ks.getD i default = ⟨nm, ty, res⟩ ∧ Brief nm ∧ d.free W b ∧ W.cell? ⟨b, off + i * 3, none⟩ = some (.string nm) ∧ W.cell? ⟨b, off + i * 3 + 1, none⟩ = some (.int .i64 ty) ∧ W.cell? ⟨b, off + i * 3 + 2, none⟩ = some (.int .i64 res) := by
  obtain ⟨h, hB⟩ := h
  obtain ⟨hl, -, b, off, rfl, hq, hc⟩ := h.at (by omega)
  obtain ⟨k, hk⟩ : ∃ k, ks.getD i default = k := ⟨_, rfl⟩
  have hb := hB _ (getD_mem (l := ks) (k := i) (by omega))
  have e : ∀ c, c < 3 → W.cell? ⟨b, off + (i * 3 + c), none⟩ = some (k.cell c) := fun c hc' => by
    rw [hc (i * 3 + c) (by omega), ← hk]
    exact congrArg some (cell_div ks Kn.cell 3 i c hc')
  rw [hk] at hb
  obtain ⟨nm, ty, res⟩ := k
  exact ⟨b, off, nm, ty, res, rfl, hk, hb, hq, e 0 (by omega), e 1 (by omega), e 2 (by omega)⟩

theorem KnowsD.is {d : Dr} {W : World} {v : Value} {ks : List Kn} (h : KnowsD d W v ks) : ∃ ad cp, v = .slice ad ks.length cp := h.1.is
theorem NodesD.is {d : Dr} {W : World} {v : Value} {ns : List Nd} (h : NodesD d W v ns) : ∃ ad cp, v = .slice ad ns.length cp := h.1.is
theorem BoolsD.is {d : Dr} {W : World} {v : Value} {ms : List Bool} (h : BoolsD d W v ms) : ∃ ad cp, v = .slice ad ms.length cp := Lies.is h

theorem BoolsD.at {d : Dr} {W : World} {ad : Option Addr} {n cp : Nat} {ms : List Bool} (h : BoolsD d W (.slice ad n cp) ms) {i : Nat} (hi : i < n) : ∃ b off, ad = some ⟨b, off, none⟩ ∧ d.free W b ∧ W.cell? ⟨b, off + i, none⟩ = some (.bool (ms.getD i false)) := by
  obtain ⟨hl, -, b, off, rfl, hq, hc⟩ := Lies.at h (by omega)
  exact ⟨b, off, rfl, hq, hc i (by omega)⟩

/-- What the drawer counts. -/
structure Cn where
  p : Nat
  left : Int
  next : Nat

/-- What was spent. -/
def Spent (s s' : Cn) (t c : Nat) : Prop := s'.p ≤ s.p + t ∧ s'.next ≤ s.next + t ∧ s.left - t ≤ s'.left ∧ s'.left ≤ s.left ∧ t + 300 * s'.left.toNat ≤ 300 * s.left.toNat + c

/-- There is enough left to spend. -/
def Fit (s : Cn) (c : Nat) : Prop := s.p + 300 * s.left.toNat + c ≤ 900000 ∧ s.next + 300 * s.left.toNat + c ≤ 900000 ∧ -900000 ≤ s.left - 300 * s.left.toNat - c ∧ s.left ≤ 1000

end Go.Proofs.YtkdipppeljpgmaaGreatDoor