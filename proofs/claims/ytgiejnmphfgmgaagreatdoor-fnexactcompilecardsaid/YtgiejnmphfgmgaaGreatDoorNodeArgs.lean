/- A list of nodes that is handed in, read as plain nodes; what the laws' helpers do to such a list, the empty and the nil one included. -/
import Derived.Test.YtgiejnmphfgmgaaGreatDoorNodeCopy
namespace Go.Proofs.YtgiejnmphfgmgaaGreatDoor
open Go.RowKit Go.Deep Go.ChangeShapes Go.WideShapes

theorem Tryz.cellsOfNode : Tryz.prog.cellsOf 76 = 6 := by kernel_rfl
theorem Tryz.cellsOfInt : Tryz.prog.cellsOf 3 = 1 := by kernel_rfl
theorem Tryz.cellsOfString : Tryz.prog.cellsOf 9 = 1 := by kernel_rfl

/-- This value is a slice of these nodes. -/
def NodeSlice (w : World) (v : Value) (ns : List Nd) : Prop :=
  ∃ a cap, v = .slice a ns.length cap ∧ (ns = [] ∨ ∃ b off, a = some ⟨b, off, none⟩ ∧ b < w.heap.size ∧ NodesAt w b off ns)

theorem NodeSlice.below {w w' : World} {v : Value} {ns : List Nd} (h : NodeSlice w v ns) (hb : Below w.heap.size w w') : NodeSlice w' v ns := by
  obtain ⟨a, cap, rfl, h⟩ := h
  refine ⟨a, cap, rfl, h.imp id ?_⟩
  rintro ⟨b, off, rfl, hlt, hn⟩
  exact ⟨b, off, rfl, Nat.lt_of_lt_of_le hlt hb.size, hn.below hb hlt⟩

section
variable {H : Type} {enc : TypeId × Value → H} {W : World} {sp : Nat → Bool} {held : Bool}

set_option maxRecDepth 100000 in
/-- One node, out of its six cells. -/
theorem open_node {fuel : Nat} {cs : List Value} {x : DataW H × List MemPlace} (h : DataW.trod enc Tryz.prog W 0 sp held fuel 76 cs = some x) :
    ∃ n : Nd, cs = [n.cell 0, n.cell 1, n.cell 2, n.cell 3, n.cell 4, n.cell 5] ∧ n.a.size ≤ maxLen ∧ n.b.size ≤ maxLen ∧ n.c.size ≤ maxLen := by
  obtain ⟨xs, k, hk, hxy, hcl, hxl, hf⟩ := DataW.trod_struct Tryz.underlying76 h
  rw [Tryz.cellsOfNode] at hcl
  match xs, hxl, cs, hcl with
  | [y0, y1, y2, y3, y4, y5], _, [v0, v1, v2, v3, v4, v5], _ =>
    have g0 := hf 0 _ rfl
    have g1 := hf 1 _ rfl
    have g2 := hf 2 _ rfl
    have g3 := hf 3 _ rfl
    have g4 := hf 4 _ rfl
    have g5 := hf 5 _ rfl
    simp [Tryz.cellsOfInt, Tryz.cellsOfString] at g0 g1 g2 g3 g4 g5
    obtain ⟨i0, e0, _⟩ := DataW.trod_int Tryz.underlying3 g0
    obtain ⟨i1, e1, _⟩ := DataW.trod_int Tryz.underlying3 g1
    obtain ⟨s2, e2, _, l2⟩ := DataW.trod_string Tryz.underlying9 g2
    obtain ⟨s3, e3, _, l3⟩ := DataW.trod_string Tryz.underlying9 g3
    obtain ⟨s4, e4, _, l4⟩ := DataW.trod_string Tryz.underlying9 g4
    obtain ⟨i5, e5, _⟩ := DataW.trod_int Tryz.underlying3 g5
    simp at e0 e1 e2 e3 e4 e5
    subst e0 e1 e2 e3 e4 e5
    exact ⟨⟨i0, i1, s2, s3, s4, i5⟩, rfl, l2, l3, l4⟩

set_option maxRecDepth 100000 in
/-- A list of nodes that is handed in. -/
theorem open_nodes {fuel : Nat} {v : Value} {x : DataW H × List MemPlace} (h : DataW.trod enc Tryz.prog W 0 sp held fuel 23 [v] = some x) :
    ∃ ns, NodeSlice W v ns ∧ Short ns ∧ ns.length ≤ maxLen := by
  rcases open_slice Tryz.underlying23 h with ⟨hc, _⟩ | ⟨a, len, cap, m, k, D, Pl, hc, _, hl, hm, hmm, _, hall⟩
  · simp at hc
    subst hc
    exact ⟨[], ⟨_, _, rfl, Or.inl rfl⟩, fun n hn => by simp at hn, by simp⟩
  · simp at hc
    subst hc
    have hlm : len ≤ m := by rw [hmm]; split <;> omega
    obtain ⟨f, hf⟩ := choose_lt (α := Nd) (n := len) (p := fun i n => (∀ c, c < 6 → W.cell? (a.add (i * 6 + c)) = some (n.cell c)) ∧ n.a.size ≤ maxLen ∧ n.b.size ≤ maxLen ∧ n.c.size ≤ maxLen) (fun i hi => by
      obtain ⟨cs', h1, h2⟩ := hall i (by omega)
      rw [Tryz.cellsOfNode] at h1
      obtain ⟨_, _, hcell⟩ := World.cells?_some h1
      obtain ⟨n, rfl, l2, l3, l4⟩ := open_node h2
      refine ⟨n, fun c hc => ?_, l2, l3, l4⟩
      have := hcell c hc
      rw [add_add] at this
      rw [this]
      match c, hc with
      | 0, _ => rfl
      | 1, _ => rfl
      | 2, _ => rfl
      | 3, _ => rfl
      | 4, _ => rfl
      | 5, _ => rfl)
    refine ⟨(List.range len).map f, ⟨some a, cap, by simp, ?_⟩, fun n hn => ?_, by simp; omega⟩
    · by_cases h0 : len = 0
      · left
        simp [h0]
      · right
        obtain ⟨b, off, spot⟩ := a
        have hspot : spot = none := by simpa [Addr.add] using World.cell?_spot ((hf 0 (by omega)).1 0 (by omega))
        subst hspot
        have hlt : b < W.heap.size := by
          have := (hf 0 (by omega)).1 0 (by omega)
          exact block_lt_of_cell this
        refine ⟨b, off, rfl, hlt, fun j hj c hc => ?_⟩
        simp at hj
        have := (hf j hj).1 c hc
        rw [add_plain] at this
        rw [Nat.add_assoc, this]
        simp [List.getD, hj]
    · simp at hn
      obtain ⟨i, hi, rfl⟩ := hn
      exact (hf i hi).2
end

set_option maxRecDepth 100000 in
theorem szNodeS_none (a : Option Addr) (cap : Nat) (left : Int) (w : World) (h0 : 0 ≤ left) (h1 : left ≤ 1048576) :
    Calls Tryz.prog 14 #[.slice a 0 cap, .int .i64 left] w fun e w' => (∃ r : Int, e = .returned (.int .i64 r) ∧ r ≤ left) ∧ Below w.heap.size w w' := by
  go_enter Tryz.func14, Tryz.ntmps14
  go_wp2
  refine wp_loop_rounds 1 ?_
  rw [rounds_succ]
  go_wp2
  go_ret
  exact ⟨⟨_, rfl, by omega⟩, Below.refl _ _⟩

theorem szNodeS_any {v : Value} {ns : List Nd} (left : Int) (w : World) (hv : NodeSlice w v ns) (hs : Short ns) (hm : ns.length ≤ maxLen) (h0 : 0 ≤ left) (h1 : left ≤ 1048576) :
    Calls Tryz.prog 14 #[v, .int .i64 left] w fun e w' => (∃ r : Int, e = .returned (.int .i64 r) ∧ r ≤ left ∧ (r < 0 ∨ ns.length ≤ 1048576)) ∧ Below w.heap.size w w' := by
  obtain ⟨a, cap, rfl, h⟩ := hv
  by_cases he : ns = []
  · subst he
    refine (szNodeS_none a cap left w h0 h1).mono ?_
    rintro e w' ⟨⟨r, rfl, hr⟩, hb⟩
    exact ⟨⟨r, rfl, hr, Or.inr (by simp)⟩, hb⟩
  · obtain ⟨b, off, rfl, hb, hn⟩ := h.resolve_left he
    exact szNodeS_calls b off ns.length cap ns left w hb hn hs (Nat.le_refl _) hm h0 h1

set_option maxRecDepth 100000 in
theorem toNodeS_none (a : Option Addr) (cap : Nat) (w : World) :
    Calls Tryz.prog 21 #[.slice a 0 cap] w fun e w' => e = .returned (.slice (some ⟨w.heap.size, 0, none⟩) 0 0) ∧ w.heap.size < w'.heap.size ∧ Below w.heap.size w w' := by
  obtain ⟨c, hcs, hmk⟩ := made_nodes 0 (by omega) w
  simp only [Int.cast_ofNat_Int] at hmk
  go_enter Tryz.func21, Tryz.ntmps21
  go_wp2
  refine wp_loop_rounds 1 ?_
  rw [rounds_succ]
  go_wp2
  go_ret
  exact ⟨rfl, by simp, (Below.refl _ _).alloc (Nat.le_refl _) _⟩

theorem toNodeS_any {v : Value} {ns : List Nd} (w : World) (hv : NodeSlice w v ns) (hm : ns.length ≤ 1048576) :
    Calls Tryz.prog 21 #[v] w fun e w' => e = .returned (.slice (some ⟨w.heap.size, 0, none⟩) ns.length ns.length) ∧ NodesAt w' w.heap.size 0 ns ∧ w.heap.size < w'.heap.size ∧ Below w.heap.size w w' := by
  obtain ⟨a, cap, rfl, h⟩ := hv
  by_cases he : ns = []
  · subst he
    refine (toNodeS_none a cap w).mono ?_
    rintro e w' ⟨rfl, h1, h2⟩
    exact ⟨rfl, fun k hk => by simp at hk, h1, h2⟩
  · obtain ⟨b, off, rfl, hb, hn⟩ := h.resolve_left he
    refine (toNodeS_calls b off ns.length cap ns w hb hn (Nat.le_refl _) hm).mono ?_
    rintro e w' ⟨rfl, h1, h2, h3⟩
    rw [List.take_length] at h1
    exact ⟨rfl, h1, h2, h3⟩
end Go.Proofs.YtgiejnmphfgmgaaGreatDoor
