/- What an instruction comes to: what is told, and the first region of the program's function. -/
import Derived.Test.YtfmkgppkgmjpfaaDoorImplNeeds
import Derived.Test.YtfmkgppkgmjpfaaDoorStagesL
import Derived.Test.YtfmkgppkgmjpfaaDoorStagesG
import Derived.IntWalk
namespace Go.Proofs.YtfmkgppkgmjpfaaDoor
open Go.RowKit Go.Conc

/-- A row of exits. -/
def ExB (W : World) (g : Nat) (es : List (Int × Sq)) : Prop :=
  ∃ cur, W.heap[g]? = some (.cells cur 64) ∧ ∀ j, j < es.length → cur[j * 4]? = some (.int .i64 (es.getD j (0, ⟨0, 0, 0⟩)).1) ∧ cur[j * 4 + 1]? = some (.int .i64 (es.getD j (0, ⟨0, 0, 0⟩)).2.n) ∧ cur[j * 4 + 2]? = some (.int .i64 (es.getD j (0, ⟨0, 0, 0⟩)).2.v) ∧ cur[j * 4 + 3]? = some (.int .i64 (es.getD j (0, ⟨0, 0, 0⟩)).2.p)

/-- What is told of what an instruction comes to. -/
def ExitsP (es : List (Int × Sq)) (W : World) (e : Ending) (W' : World) : Prop :=
  Below W.heap.size W W' ∧ ∃ ad c, e = .returned (.slice ad es.length c) ∧ (es = [] ∨ ∃ g, ad = some ⟨g, 0, none⟩ ∧ ExB W' g es)

theorem exits_none {W W' : World} (hb : Below W.heap.size W W') : ExitsP [] W (.returned (.slice none 0 0)) W' := ⟨hb, none, 0, rfl, Or.inl rfl⟩

theorem exits_one {W X : World} {t n v p : Int} {e : Int × Sq} (hb : Below W.heap.size W X) (he : e = (t, ⟨n, v, p⟩)) : ExitsP [e] W (.returned (.slice (some ⟨X.heap.size, 0, none⟩) 1 1)) (X.alloc (.cells #[.int .i64 t, .int .i64 n, .int .i64 v, .int .i64 p] 64)) := by
  subst he
  refine ⟨hb.alloc hb.size _, _, 1, rfl, Or.inr ⟨_, rfl, _, (MapKept.heap_alloc X _).1, fun j hj => ?_⟩⟩
  obtain rfl : j = 0 := by simpa using hj
  exact ⟨rfl, rfl, rfl, rfl⟩

theorem exits_two {W X : World} {t n v p t' n' v' p' : Int} {e e' : Int × Sq} (hb : Below W.heap.size W X) (he : e = (t, ⟨n, v, p⟩)) (he' : e' = (t', ⟨n', v', p'⟩)) : ExitsP [e, e'] W (.returned (.slice (some ⟨X.heap.size, 0, none⟩) 2 2)) (X.alloc (.cells #[.int .i64 t, .int .i64 n, .int .i64 v, .int .i64 p, .int .i64 t', .int .i64 n', .int .i64 v', .int .i64 p'] 64)) := by
  subst he he'
  refine ⟨hb.alloc hb.size _, _, 2, rfl, Or.inr ⟨_, rfl, _, (MapKept.heap_alloc X _).1, fun j hj => ?_⟩⟩
  have hj' : j = 0 ∨ j = 1 := by simp at hj; omega
  rcases hj' with rfl | rfl
  · exact ⟨rfl, rfl, rfl, rfl⟩
  · exact ⟨rfl, rfl, rfl, rfl⟩

/-- An instruction and a spot are kept in two boxes. -/
structure Boxed (W X : World) (b5 b6 : Nat) (op a b c n v p : Int) : Prop where
  bel : Below W.heap.size W X
  i : X.heap[b5]? = some (.cells #[.int .i64 op, .int .i64 a, .int .i64 b, .int .i64 c] 40)
  s : X.heap[b6]? = some (.cells #[.int .i64 n, .int .i64 v, .int .i64 p] 51)

def put4 (X : World) (g : Nat) (a b c d : Value) : World := (((X.setCell ⟨g, 0, none⟩ a).setCell ⟨g, 1, none⟩ b).setCell ⟨g, 2, none⟩ c).setCell ⟨g, 3, none⟩ d
def put3 (X : World) (g : Nat) (a b c : Value) : World := ((X.setCell ⟨g, 0, none⟩ a).setCell ⟨g, 1, none⟩ b).setCell ⟨g, 2, none⟩ c

theorem put4_is {X : World} {g : Nat} {x0 x1 x2 x3 : Value} {t : TypeId} (h : X.heap[g]? = some (.cells #[x0, x1, x2, x3] t)) (a b c d : Value) : (put4 X g a b c d).heap[g]? = some (.cells #[a, b, c, d] t) ∧ (∀ q, q ≠ g → (put4 X g a b c d).heap[q]? = X.heap[q]?) ∧ (put4 X g a b c d).heap.size = X.heap.size ∧ (put4 X g a b c d).os = X.os ∧ (put4 X g a b c d).tape = X.tape ∧ (put4 X g a b c d).output = X.output := by
  refine ⟨by simp [put4, World.setCell, Array.getElem?_modify, h], fun q hq => ?_, by simp [put4, World.setCell], by simp [put4, World.setCell], by simp [put4, World.setCell], by simp [put4, World.setCell]⟩
  unfold put4
  rw [Below.heap_setCell _ ⟨g, 3, none⟩ _ q hq, Below.heap_setCell _ ⟨g, 2, none⟩ _ q hq, Below.heap_setCell _ ⟨g, 1, none⟩ _ q hq, Below.heap_setCell _ ⟨g, 0, none⟩ _ q hq]

theorem put3_is {X : World} {g : Nat} {x0 x1 x2 : Value} {t : TypeId} (h : X.heap[g]? = some (.cells #[x0, x1, x2] t)) (a b c : Value) : (put3 X g a b c).heap[g]? = some (.cells #[a, b, c] t) ∧ (∀ q, q ≠ g → (put3 X g a b c).heap[q]? = X.heap[q]?) ∧ (put3 X g a b c).heap.size = X.heap.size ∧ (put3 X g a b c).os = X.os ∧ (put3 X g a b c).tape = X.tape ∧ (put3 X g a b c).output = X.output := by
  refine ⟨by simp [put3, World.setCell, Array.getElem?_modify, h], fun q hq => ?_, by simp [put3, World.setCell], by simp [put3, World.setCell], by simp [put3, World.setCell], by simp [put3, World.setCell]⟩
  unfold put3
  rw [Below.heap_setCell _ ⟨g, 2, none⟩ _ q hq, Below.heap_setCell _ ⟨g, 1, none⟩ _ q hq, Below.heap_setCell _ ⟨g, 0, none⟩ _ q hq]

theorem two_new (D : World) (o1 o2 : Obj) : ((D.alloc o1).alloc o2).heap[D.heap.size]? = some o1 ∧ ((D.alloc o1).alloc o2).heap[D.heap.size + 1]? = some o2 := by
  have h1 := (MapKept.heap_alloc D o1).1
  have h2 := MapKept.heap_alloc (D.alloc o1) o2
  have hs : (D.alloc o1).heap.size = D.heap.size + 1 := by simp
  refine ⟨(h2.2 _ (by omega)).trans h1, ?_⟩
  have h3 := h2.1
  rw [hs] at h3
  exact h3

theorem boxed {W X : World} {b5 b6 : Nat} {x0 x1 x2 x3 y0 y1 y2 : Value} (hb : Below W.heap.size W X) (h5 : X.heap[b5]? = some (.cells #[x0, x1, x2, x3] 40)) (h6 : X.heap[b6]? = some (.cells #[y0, y1, y2] 51)) (l5 : W.heap.size ≤ b5) (l6 : W.heap.size ≤ b6) (op a b c n v p : Int) :
    Boxed W (put3 (put4 X b5 (.int .i64 op) (.int .i64 a) (.int .i64 b) (.int .i64 c)) b6 (.int .i64 n) (.int .i64 v) (.int .i64 p)) b5 b6 op a b c n v p := by
  have hne : b6 ≠ b5 := fun e => by
    subst e
    rw [h5] at h6
    cases h6
  obtain ⟨p1, p2, p3, p4, p5, p6⟩ := put4_is h5 (.int .i64 op) (.int .i64 a) (.int .i64 b) (.int .i64 c)
  obtain ⟨q1, q2, q3, q4, q5, q6⟩ := put3_is ((p2 b6 hne).trans h6) (.int .i64 n) (.int .i64 v) (.int .i64 p)
  exact ⟨⟨q4.trans (p4.trans hb.os), q5.trans (p5.trans hb.tape), q6.trans (p6.trans hb.output), by rw [q3, p3]; exact hb.size, fun q hq => (q2 q (by omega)).trans ((p2 q (by omega)).trans (hb.block q hq))⟩, (q2 b5 (Ne.symm hne)).trans p1, q1⟩
end Go.Proofs.YtfmkgppkgmjpfaaDoor
