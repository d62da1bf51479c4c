/- Lists of instructions as they lie in memory: what the laws' own helpers do to them. -/
import Derived.Test.YtfmkgppkgmjpfaaDoorOwnRow
namespace Go.Proofs.YtfmkgppkgmjpfaaDoor
open Go.RowKit Go.Deep Go.ChangeShapes Go.WideShapes

/-- An instruction as a plain value. -/
structure In where
  op : Int
  a : Int
  b : Int
  c : Int

instance : Inhabited In := ⟨⟨0, 0, 0, 0⟩⟩

/-- What an instruction's cell holds. -/
def In.cell (n : In) : Nat → Value
  | 0 => .int .i64 n.op
  | 1 => .int .i64 n.a
  | 2 => .int .i64 n.b
  | _ => .int .i64 n.c

def In.val (n : In) : Value := .agg #[.int .i64 n.op, .int .i64 n.a, .int .i64 n.b, .int .i64 n.c]

/-- These instructions lie one behind the other from there on. -/
def InsAt (w : World) (b off : Nat) (ns : List In) : Prop :=
  ∀ k, k < ns.length → ∀ c, c < 4 → w.cell? ⟨b, off + k * 4 + c, none⟩ = some ((ns.getD k default).cell c)

theorem InsAt.below {w w' : World} {b off B : Nat} {ns : List In} (h : InsAt w b off ns) (hb : Below B w w') (hB : b < B) : InsAt w' b off ns :=
  fun k hk c hc => (hb.cell hB).trans (h k hk c hc)

/-- This value is a slice of these instructions. -/
def InsSlice (w : World) (v : Value) (ns : List In) : Prop :=
  ∃ a cap, v = .slice a ns.length cap ∧ (ns = [] ∨ ∃ b off, a = some ⟨b, off, none⟩ ∧ b < w.heap.size ∧ InsAt w b off ns)

theorem InsSlice.below {w w' : World} {v : Value} {ns : List In} (h : InsSlice w v ns) (hb : Below w.heap.size w w') : InsSlice w' v ns := by
  obtain ⟨a, cap, rfl, h⟩ := h
  refine ⟨a, cap, rfl, h.imp id ?_⟩
  rintro ⟨b, off, rfl, hlt, hn⟩
  exact ⟨b, off, rfl, Nat.lt_of_lt_of_le hlt hb.size, hn.below hb hlt⟩

theorem Tryd.cellsOfIns : Tryd.prog.cellsOf 42 = 4 := by kernel_rfl
theorem Tryd.cellsOfIntI : Tryd.prog.cellsOf 3 = 1 := by kernel_rfl

section
variable {H : Type} {enc : TypeId × Value → H} {W : World} {sp : Nat → Bool} {held : Bool}

set_option maxRecDepth 100000 in
/-- One instruction, out of its four cells. -/
theorem open_ins {fuel : Nat} {cs : List Value} {x : DataW H × List MemPlace} (h : DataW.trod enc Tryd.prog W 0 sp held fuel 42 cs = some x) :
    ∃ n : In, cs = [n.cell 0, n.cell 1, n.cell 2, n.cell 3] := by
  obtain ⟨xs, k, hk, hxy, hcl, hxl, hf⟩ := DataW.trod_struct Tryd.underlying42 h
  rw [Tryd.cellsOfIns] at hcl
  match xs, hxl, cs, hcl with
  | [y0, y1, y2, y3], _, [v0, v1, v2, v3], _ =>
    have g0 := hf 0 _ rfl
    have g1 := hf 1 _ rfl
    have g2 := hf 2 _ rfl
    have g3 := hf 3 _ rfl
    simp [Tryd.cellsOfIntI] at g0 g1 g2 g3
    obtain ⟨i0, e0, _⟩ := DataW.trod_int Tryd.underlying3 g0
    obtain ⟨i1, e1, _⟩ := DataW.trod_int Tryd.underlying3 g1
    obtain ⟨i2, e2, _⟩ := DataW.trod_int Tryd.underlying3 g2
    obtain ⟨i3, e3, _⟩ := DataW.trod_int Tryd.underlying3 g3
    simp at e0 e1 e2 e3
    subst e0 e1 e2 e3
    exact ⟨⟨i0, i1, i2, i3⟩, rfl⟩

set_option maxRecDepth 100000 in
/-- A list of instructions that is handed in. -/
theorem open_insS {fuel : Nat} {v : Value} {x : DataW H × List MemPlace} (h : DataW.trod enc Tryd.prog W 0 sp held fuel 22 [v] = some x) :
    ∃ ns, InsSlice W v ns ∧ ns.length ≤ maxLen := by
  rcases open_slice Tryd.underlying22 h with ⟨hc, _⟩ | ⟨a, len, cap, m, k, D, Pl, hc, _, hl, hm, hmm, _, hall⟩
  · simp at hc
    subst hc
    exact ⟨[], ⟨_, _, rfl, Or.inl rfl⟩, by simp⟩
  · simp at hc
    subst hc
    have hlm : len ≤ m := by rw [hmm]; split <;> omega
    obtain ⟨f, hf⟩ := choose_lt (α := In) (n := len) (p := fun i n => ∀ c, c < 4 → W.cell? (a.add (i * 4 + c)) = some (n.cell c)) (fun i hi => by
      obtain ⟨cs', h1, h2⟩ := hall i (by omega)
      rw [Tryd.cellsOfIns] at h1
      obtain ⟨_, _, hcell⟩ := World.cells?_some h1
      obtain ⟨n, rfl⟩ := open_ins h2
      refine ⟨n, fun c hc => ?_⟩
      have := hcell c hc
      rw [add_add] at this
      rw [this]
      match c, hc with
      | 0, _ => rfl
      | 1, _ => rfl
      | 2, _ => rfl
      | 3, _ => rfl)
    refine ⟨(List.range len).map f, ⟨some a, cap, by simp, ?_⟩, by simp; omega⟩
    by_cases h0 : len = 0
    · left
      simp [h0]
    · right
      obtain ⟨b, off, spot⟩ := a
      have hspot : spot = none := by simpa [Addr.add] using World.cell?_spot ((hf 0 (by omega)) 0 (by omega))
      subst hspot
      have hlt : b < W.heap.size := by
        have := (hf 0 (by omega)) 0 (by omega)
        exact block_lt_of_cell this
      refine ⟨b, off, rfl, hlt, fun j hj c hc => ?_⟩
      simp at hj
      have := (hf j hj) c hc
      rw [add_plain] at this
      rw [Nat.add_assoc, this]
      simp [List.getD, hj]
end

theorem wrap_less {x : Int} {s : Nat} (h0 : 0 ≤ x) (h1 : x ≤ 1048576) (hs : s ≤ maxLen) : wrap64 (x - s) = x - s := by
  unfold maxLen at hs
  unfold wrap64
  omega

theorem wrap_one {k len : Nat} (hk : k < len) (hm : len ≤ 1048576) : wrap64 ((k : Int) + 1) = ((k + 1 : Nat) : Int) := by
  unfold wrap64
  omega

set_option maxRecDepth 100000 in
theorem szInsS_calls (a : Option Addr) (len cap : Nat) (w : World) (hm : len ≤ maxLen) :
    Calls Tryd.prog 5 #[.slice a len cap, .int .i64 1048576] w fun e w' => (∃ r : Int, e = .returned (.int .i64 r) ∧ (r < 0 ∨ (0 ≤ r ∧ len ≤ 1048576))) ∧ w = w' := by
  have e1 := wrap_less (x := 1048576) (s := len) (by omega) (by omega) hm
  by_cases hbig : ((1048576 : Int) - (len : Int) < 0)
  · have H1 : (wrap64 ((1048576 : Int) - (len : Int)) < 0) := by rw [e1]; exact hbig
    clear e1
    go_enter Tryd.func5, Tryd.ntmps5
    go_wp2
    go_ret
    exact ⟨⟨_, rfl, Or.inl (by decide)⟩, rfl⟩
  · have H1 : ¬ (wrap64 ((1048576 : Int) - (len : Int)) < 0) := by rw [e1]; exact hbig
    have H2 : 0 ≤ wrap64 ((1048576 : Int) - (len : Int)) := by rw [e1]; omega
    have HL : Hid (len ≤ 1048576) := by show len ≤ 1048576; omega
    clear e1 hbig
    go_enter Tryd.func5, Tryd.ntmps5
    go_wp2
    go_ret
    exact ⟨⟨_, rfl, Or.inr ⟨H2, HL.out⟩⟩, rfl⟩

set_option maxRecDepth 100000 in
theorem toIns_calls (op a b c : Int) (w : World) :
    Calls Tryd.prog 17 #[.agg #[.int .i64 op, .int .i64 a, .int .i64 b, .int .i64 c]] w fun e w' => e = .returned (.agg #[.int .i64 op, .int .i64 a, .int .i64 b, .int .i64 c]) ∧ Below w.heap.size w w' := by
  go_enter Tryd.func17, Tryd.ntmps17
  go_wp2
  refine bodyPost_ret (v := .agg #[.int .i64 op, .int .i64 a, .int .i64 b, .int .i64 c]) (by simp [results, Tryd.results17, go_sem]) rfl ⟨rfl, ?_⟩
  repeat (first | exact Below.refl _ _ | refine Below.alloc ?_ (by first | (simp; done) | (simp; omega)) _)

set_option maxRecDepth 100000 in
theorem eqIns_calls (op a b c : Int) (w : World) :
    Calls Tryd.prog 20 #[.agg #[.int .i64 op, .int .i64 a, .int .i64 b, .int .i64 c], .agg #[.int .i64 op, .int .i64 a, .int .i64 b, .int .i64 c]] w fun e w' => e = .returned (.bool true) ∧ Below w.heap.size w w' := by
  go_enter Tryd.func20, Tryd.ntmps20
  go_wp2
  go_ret
  exact ⟨rfl, by repeat (first | exact Below.refl _ _ | refine Below.alloc ?_ (by first | (simp; done) | (simp; omega)) _)⟩
end Go.Proofs.YtfmkgppkgmjpfaaDoor
