/- Lists of operations as they lie in memory: what the laws' own helpers do to them. -/
import Derived.Test.YtnhofdngmbnlkaaNodeArgs
namespace Go.Proofs.Ytnhofdngmbnlkaa
open Go.RowKit Go.Deep Go.ChangeShapes Go.WideShapes

/-- An operation as a plain value. -/
structure Ef where
  name : ByteArray
  arg : Int
  res : Int

instance : Inhabited Ef := ⟨⟨ByteArray.empty, 0, 0⟩⟩

def Ef.cell (n : Ef) : Nat → Value
  | 0 => .string n.name
  | 1 => .int .i64 n.arg
  | _ => .int .i64 n.res

def EffsAt (w : World) (b off : Nat) (es : List Ef) : Prop :=
  ∀ k, k < es.length → ∀ c, c < 3 → w.cell? ⟨b, off + k * 3 + c, none⟩ = some ((es.getD k default).cell c)

def EfShort (es : List Ef) : Prop := ∀ n ∈ es, n.name.size ≤ maxLen

theorem EffsAt.below {w w' : World} {b off B : Nat} {es : List Ef} (h : EffsAt w b off es) (hb : Below B w w') (hB : b < B) : EffsAt w' b off es :=
  fun k hk c hc => (hb.cell hB).trans (h k hk c hc)

theorem EfShort.at {es : List Ef} (h : EfShort es) {k : Nat} (hk : k < es.length) : (es.getD k default).name.size ≤ maxLen := by
  have e : es.getD k default = es[k] := by simp [List.getD, List.getElem?_eq_getElem hk]
  rw [e]
  exact h _ (List.getElem_mem hk)

theorem info_eff : (Try.prog.info? 60).map (fun i => (i.zero, i.size, i.bytes)) = some (some (.agg #[.string ByteArray.empty, .int .i64 0, .int .i64 0]), 3, 32) := by kernel_rfl

theorem made_effs (len : Nat) (hl : len ≤ 1048576) (w : World) : ∃ c : Array Value, c.size = len * 3 ∧
    (Instr.makeSlice 42 (.int .i64 (len : Int)) (.int .i64 (len : Int))).run Try.prog w = .ok (.slice (some ⟨w.heap.size, 0, none⟩) len len) (w.alloc (.cells c 60)) := by
  obtain ⟨i0, hi, hz0, hz1, hz2⟩ := info_parts info_eff
  have h := run_make (P := Try.prog) w 42 60 i0 _ Try.underlying42 hi hz0 .i64 .i64 len len (by omega) (Int.le_refl _) (by rw [hz2]; omega) (by omega)
  rw [hz1] at h
  simp only [Int.toNat_natCast] at h
  exact ⟨_, size_madeCells _ _, h⟩

theorem copy_eff {w1 : World} {B t N k : Nat} {f : Nat → Value} {es : List Ef} {n : Ef} (h : w1.rowIs B t N f) (hf : ∀ j, j < k → ∀ c, c < 3 → f (j * 3 + c) = (es.getD j default).cell c) (hn : es.getD k default = n) :
    ∃ f', (((w1.setCell ⟨B, k * 3, none⟩ (.string n.name)).setCell ⟨B, k * 3 + 1, none⟩ (.int .i64 n.arg)).setCell ⟨B, k * 3 + 2, none⟩ (.int .i64 n.res)).rowIs B t N f' ∧
      ∀ j, j < k + 1 → ∀ c, c < 3 → f' (j * 3 + c) = (es.getD j default).cell c := by
  refine ⟨_, ((h.set _ _).set _ _).set _ _, fun j hj c hc => ?_⟩
  by_cases hjk : j < k
  · rw [if_neg (by omega), if_neg (by omega), if_neg (by omega)]
    exact hf j hjk c hc
  · have e : j = k := by omega
    subst e
    rw [hn]
    match c, hc with
    | 0, _ => rw [if_neg (by omega), if_neg (by omega), if_pos (by omega)]; rfl
    | 1, _ => rw [if_neg (by omega), if_pos (by omega)]; rfl
    | 2, _ => rw [if_pos (by omega)]; rfl

end Go.Proofs.Ytnhofdngmbnlkaa